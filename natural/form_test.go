package natural_test

import (
	"math"
	"math/big"
	"math/bits"
	"slices"
	"testing"

	"slope/api"
	"slope/natural"
)

// P1.1
func TestMay(t *testing.T) {
	for _, n := range append(sample(), api.Nat{}, nil, api.Nat{0, 1}, append(make(api.Nat, api.MaxLimbs-1), 1)) {
		if !natural.May(n) {
			t.Errorf("May of %d limbs: false", len(n))
		}
	}
	for i, n := range wrong() {
		if natural.May(n) {
			t.Errorf("May of wrong list %d: true", i)
		}
	}
}

// P1.1
func TestFromAndUint(t *testing.T) {
	for v, want := range map[uint64]api.Nat{
		0: nil, 1: {1}, 1<<32 - 1: {1<<32 - 1}, 4294967296: {0, 1}, 1<<32 + 5: {5, 1}, math.MaxUint64: {1<<32 - 1, 1<<32 - 1},
	} {
		n := natural.From(v)
		if !slices.Equal(n, want) {
			t.Errorf("From(%d): %d", v, n)
		}
		if u, ok := natural.Uint(n); u != v || !ok {
			t.Errorf("Uint of %d: %d %t", v, u, ok)
		}
	}
	for _, n := range append(wrong(), api.Nat{0, 0, 1}, top(), api.Nat{0, 0}, api.Nat{1, 0}) {
		if u, ok := natural.Uint(n); u != 0 || ok {
			t.Errorf("Uint of %d limbs: %d %t", len(n), u, ok)
		}
	}
}

// P1.2
func TestCmp(t *testing.T) {
	l := append(sample(), api.Nat{1, 2, 3}, api.Nat{2, 2, 3}, api.Nat{1, 3, 3}, api.Nat{5, 1, 4}, api.Nat{})
	for _, a := range l {
		for _, b := range l {
			if got, want := natural.Cmp(a, b), value(a).Cmp(value(b)); got != want {
				t.Errorf("Cmp of %d and %d limbs: %d, not %d", len(a), len(b), got, want)
			}
		}
	}
	for i, w := range wrong() {
		if natural.Cmp(w, nil) != 0 || natural.Cmp(api.Nat{9}, w) != 0 || natural.Cmp(w, top()) != 0 || natural.Cmp(w, w) != 0 {
			t.Errorf("Cmp with wrong list %d", i)
		}
	}
}

// P1.3
func TestBitsOnesTail(t *testing.T) {
	for _, n := range sample() {
		v := value(n)
		if got := natural.Bits(n); got != v.BitLen() {
			t.Errorf("Bits of %d limbs: %d", len(n), got)
		}
		if got := natural.Tail(n); got != int(v.TrailingZeroBits()) {
			t.Errorf("Tail of %d limbs: %d", len(n), got)
		}
		count := 0
		for _, w := range n {
			count += bits.OnesCount32(w)
		}
		if got := natural.Ones(n); got != count {
			t.Errorf("Ones of %d limbs: %d", len(n), got)
		}
	}
	if natural.Bits(hex(t, "100000000")) != 33 || natural.Ones(hex(t, "ff00ff")) != 16 || natural.Tail(hex(t, "ff00")) != 8 {
		t.Error("the chapter's examples")
	}
	if natural.Bits(nil) != 0 || natural.Ones(nil) != 0 || natural.Tail(nil) != 0 || natural.Bits(top()) != 65536 || natural.Ones(top()) != 65536 || natural.Tail(two(65535)) != 65535 {
		t.Error("the edges")
	}
	for i, n := range wrong() {
		if natural.Bits(n) != 0 || natural.Ones(n) != 0 || natural.Tail(n) != 0 || natural.Bit(n, 0) != 0 || natural.Bit(n, 1) != 0 {
			t.Errorf("of wrong list %d: not 0", i)
		}
	}
}

// P1.3
func TestBit(t *testing.T) {
	for _, n := range sample() {
		v := value(n)
		for _, i := range []int{0, 1, 2, 31, 32, 33, 63, 64, 511, 512, 32767, 32768, 65534, 65535, 65536, 70000, v.BitLen(), max(v.BitLen()-1, 0)} {
			if got := natural.Bit(n, i); got != int(v.Bit(i)) {
				t.Errorf("Bit %d of %d limbs: %d", i, len(n), got)
			}
		}
		for _, i := range []int{-1, -32, -33, math.MinInt, math.MaxInt, math.MaxInt - 31} {
			if natural.Bit(n, i) != 0 {
				t.Errorf("Bit %d of %d limbs: not 0", i, len(n))
			}
		}
	}
	if natural.Bit(natural.From(5), 2) != 1 || natural.Bit(natural.From(5), 1) != 0 || natural.Bit(natural.From(5), -1) != 0 {
		t.Error("the chapter's examples")
	}
}

// P1.12
func TestBytes(t *testing.T) {
	for _, n := range sample() {
		b, e := natural.Bytes(n)
		if e != api.OK || !slices.Equal(b, value(n).Bytes()) {
			t.Errorf("Bytes of %d limbs: %d bytes, error %d", len(n), len(b), e)
		}
		m, e := natural.FromBytes(b)
		wantNat(t, "FromBytes", m, e, value(n))
		m, e = natural.FromBytes(append(make([]byte, 9000), b...))
		wantNat(t, "FromBytes with zeros ahead", m, e, value(n))
	}
	if b, e := natural.Bytes(hex(t, "1ff")); e != api.OK || !slices.Equal(b, []byte{1, 255}) {
		t.Errorf("Bytes(1ff): %d, error %d", b, e)
	}
	n, e := natural.FromBytes([]byte{0, 0, 1, 255})
	wantHex(t, "FromBytes", n, e, "1ff")
	for _, zeros := range []int{0, 1, 3, 4, 5, 8192, 8193, 9000, 1 << 20} {
		n, e := natural.FromBytes(make([]byte, zeros))
		wantNat(t, "FromBytes of zeros", n, e, new(big.Int))
	}
	n, e = natural.FromBytes(append([]byte{1}, make([]byte, 8192)...))
	wantErr(t, "FromBytes of 2^65536", n, e, api.ErrBig)
	n, e = natural.FromBytes(append(make([]byte, 8192), slices.Repeat([]byte{255}, 8193)...))
	wantErr(t, "FromBytes of 8193 bytes behind zeros", n, e, api.ErrBig)
	for i, w := range wrong() {
		if b, e := natural.Bytes(w); e != api.ErrNat || len(b) != 0 {
			t.Errorf("Bytes of wrong list %d: %d bytes, error %d", i, len(b), e)
		}
	}
}
