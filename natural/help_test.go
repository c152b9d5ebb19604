package natural_test

import (
	"encoding/binary"
	"math/big"
	"slices"
	"testing"

	"slope/api"
	"slope/natural"
)

// value is what a list of limbs is worth, as another library reckons it.
func value(n api.Nat) *big.Int {
	b := make([]byte, 4*len(n))
	for i, limb := range n {
		binary.BigEndian.PutUint32(b[4*(len(n)-1-i):], limb)
	}
	return new(big.Int).SetBytes(b)
}

// limbs is the list of a number of that library.
func limbs(v *big.Int) api.Nat {
	z := make(api.Nat, (v.BitLen()+31)/32)
	b := v.FillBytes(make([]byte, 4*len(z)))
	for i := range z {
		z[i] = binary.BigEndian.Uint32(b[4*(len(z)-1-i):])
	}
	return z
}

// hex is the natural of a text in base 16.
func hex(t *testing.T, s string) api.Nat {
	t.Helper()
	v, ok := new(big.Int).SetString(s, 16)
	if !ok {
		t.Fatalf("%.20q is no number", s)
	}
	return limbs(v)
}

// two is 2^k.
func two(k int) api.Nat { return limbs(new(big.Int).Lsh(big.NewInt(1), uint(k))) }

// top is the greatest natural, 2^65536 - 1.
func top() api.Nat { return ones(api.MaxLimbs) }

// ones is so many limbs, all of them the greatest.
func ones(n int) api.Nat { return slices.Repeat(api.Nat{1<<32 - 1}, n) }

// wantNat fails if it is not that number, or not the one list of it.
func wantNat(t *testing.T, what string, got api.Nat, e api.Errno, want *big.Int) {
	t.Helper()
	if e != api.OK {
		t.Errorf("%s: error %d", what, e)
	} else if !slices.Equal(got, limbs(want)) {
		t.Errorf("%s: %d limbs, not the %d of what is asked for", what, len(got), len(limbs(want)))
	}
}

// wantHex is wantNat for a text in base 16.
func wantHex(t *testing.T, what string, got api.Nat, e api.Errno, want string) {
	t.Helper()
	wantNat(t, what, got, e, value(hex(t, want)))
}

// wantErr fails if it is not that error with no limbs beside it.
func wantErr(t *testing.T, what string, got api.Nat, e api.Errno, want api.Errno) {
	t.Helper()
	if e != want || len(got) != 0 {
		t.Errorf("%s: error %d with %d limbs, not error %d alone", what, e, len(got), want)
	}
}

// dice throws numbers that are the same in every run.
type dice uint64

func (d *dice) next() uint32 {
	*d = *d*6364136223846793005 + 1442695040888963407
	return uint32(*d >> 32)
}

// nat is a natural of that many limbs, in one of four looks: any limbs, the greatest ones, long runs of 0 and of the greatest, single bits.
func (d *dice) nat(n int) api.Nat {
	z := make(api.Nat, n)
	look := d.next() % 4
	for i := range z {
		switch {
		case look == 0:
			z[i] = d.next()
		case look == 1, look == 2 && d.next()%2 == 0:
			z[i] = 1<<32 - 1
		case look == 3 && d.next()%4 == 0:
			z[i] = 1 << (d.next() % 32)
		}
	}
	if n > 0 && z[n-1] == 0 {
		z[n-1] = 1 + d.next()>>1
	}
	return z
}

// edges are naturals at which something begins or ends.
func edges() []api.Nat {
	less := func(n api.Nat) api.Nat { return limbs(new(big.Int).Sub(value(n), big.NewInt(1))) }
	more := func(n api.Nat) api.Nat { return limbs(new(big.Int).Add(value(n), big.NewInt(1))) }
	return []api.Nat{
		nil, {1}, {2}, {3}, {1<<32 - 1}, {0, 1}, {1, 1}, {1<<32 - 1, 1}, {1<<32 - 1, 1<<32 - 1},
		{0, 0, 1}, {1, 0, 1}, {0, 1 << 31}, {1<<32 - 1, 0, 1<<32 - 1},
		less(two(512)), two(512), more(two(512)), less(two(32768)), two(32768), more(two(32768)),
		two(65535), less(two(65535)), less(top()), top(),
	}
}

// sample is the edges and naturals of many lengths, on both sides of where halves begin.
func sample() []api.Nat {
	d := dice(1)
	l := edges()
	for _, n := range []int{1, 2, 3, 4, 7, 33, 47, 48, 49, 70, 95, 96, 97, 98, 130, 193, 401, 1023, 1024, 1025, 1600} {
		l = append(l, d.nat(n), d.nat(n))
	}
	return l
}

// wrong are lists that may not be.
func wrong() []api.Nat {
	return []api.Nat{
		{0}, {0, 0}, {1, 0}, {1, 2, 3, 0},
		append(ones(api.MaxLimbs), 1), make(api.Nat, api.MaxLimbs+1), ones(api.MaxLimbs + 1), append(ones(api.MaxLimbs-1), 0), ones(5000),
	}
}

// pairCall is a call of two naturals that answers one, for the tests that go over all of them.
type pairCall struct {
	name string
	call func(a, b api.Nat) (api.Nat, api.Errno)
}

func pairCalls() []pairCall {
	return []pairCall{
		{"Add", natural.Add}, {"Sub", natural.Sub}, {"Mul", natural.Mul},
		{"And", natural.And}, {"Or", natural.Or}, {"Xor", natural.Xor}, {"Not", natural.Not},
		{"Gcd", natural.Gcd}, {"Lcm", natural.Lcm},
	}
}
