package natural_test

import (
	"fmt"
	"math"
	"math/big"
	"testing"

	"slope/api"
	"slope/natural"
)

// P1.7
func TestShifts(t *testing.T) {
	for _, n := range sample() {
		for _, k := range []int{0, 1, 5, 31, 32, 33, 63, 64, 1000, 32767, 32768, 65535, 65536} {
			z, e := natural.Shl(n, k)
			wantFit(t, fmt.Sprint("Shl by ", k), z, e, new(big.Int).Lsh(value(n), uint(k)))
			z, e = natural.Shr(n, k)
			wantNat(t, fmt.Sprint("Shr by ", k), z, e, new(big.Int).Rsh(value(n), uint(k)))
		}
		for _, k := range []int{-1, 65537, math.MinInt, math.MaxInt} {
			z, e := natural.Shl(n, k)
			wantErr(t, fmt.Sprint("Shl by ", k), z, e, api.ErrArg)
			z, e = natural.Shr(n, k)
			wantErr(t, fmt.Sprint("Shr by ", k), z, e, api.ErrArg)
		}
	}
	for _, w := range wrong() {
		for _, k := range []int{-1, 0, 1, 65536, 65537} {
			z, e := natural.Shl(w, k)
			wantErr(t, "Shl of a wrong list", z, e, api.ErrNat)
			z, e = natural.Shr(w, k)
			wantErr(t, "Shr of a wrong list", z, e, api.ErrNat)
		}
	}
}

// P1.7
func TestExamplesOfShifts(t *testing.T) {
	if n, e := natural.Shl(natural.From(1), 65535); e != api.OK || len(n) != 2048 {
		t.Errorf("Shl(1, 65535): %d limbs, error %d", len(n), e)
	}
	n, e := natural.Shl(natural.From(1), 65536)
	wantErr(t, "Shl(1, 65536)", n, e, api.ErrBig)
	n, e = natural.Shl(nil, 65536)
	wantHex(t, "Shl(0, 65536)", n, e, "0")
	n, e = natural.Shl(natural.From(1), 65537)
	wantErr(t, "Shl(1, 65537)", n, e, api.ErrArg)
	n, e = natural.Shr(natural.From(255), 65536)
	wantHex(t, "Shr(ff, 65536)", n, e, "0")
	n, e = natural.Shr(top(), 65535)
	wantHex(t, "Shr(top, 65535)", n, e, "1")
}

// P1.8
func TestBitByBit(t *testing.T) {
	for _, a := range sample() {
		for _, b := range sample() {
			x, y := value(a), value(b)
			n, e := natural.And(a, b)
			wantNat(t, "And", n, e, new(big.Int).And(x, y))
			n, e = natural.Or(a, b)
			wantNat(t, "Or", n, e, new(big.Int).Or(x, y))
			n, e = natural.Xor(a, b)
			wantNat(t, "Xor", n, e, new(big.Int).Xor(x, y))
			n, e = natural.Not(a, b)
			wantNat(t, "Not", n, e, new(big.Int).AndNot(x, y))
		}
	}
}

// P1.9
func TestPow(t *testing.T) {
	for _, n := range sample() {
		for _, k := range []int{0, 1, 2, 3, 4, 5, 7, 31, 100, 1023, 1024} {
			z, e := natural.Pow(n, k)
			what := fmt.Sprintf("Pow of %d bits to %d", natural.Bits(n), k)
			if natural.Bits(n)*k > 200000 {
				wantErr(t, what, z, e, api.ErrBig)
				continue
			}
			wantFit(t, what, z, e, new(big.Int).Exp(value(n), big.NewInt(int64(k)), nil))
		}
		for _, k := range []int{-1, 1025, math.MinInt, math.MaxInt} {
			z, e := natural.Pow(n, k)
			wantErr(t, fmt.Sprint("Pow to ", k), z, e, api.ErrArg)
		}
	}
	for _, w := range wrong() {
		for _, k := range []int{-1, 0, 1, 1025} {
			z, e := natural.Pow(w, k)
			wantErr(t, "Pow of a wrong list", z, e, api.ErrNat)
		}
	}
}

// P1.9: what is just not too big, and what just is.
func TestPowAtTheTop(t *testing.T) {
	n, e := natural.Pow(nil, 0)
	wantHex(t, "Pow(0, 0)", n, e, "1")
	n, e = natural.Pow(top(), 0)
	wantHex(t, "Pow(top, 0)", n, e, "1")
	n, e = natural.Pow(nil, 1024)
	wantHex(t, "Pow(0, 1024)", n, e, "0")
	n, e = natural.Pow(natural.From(2), 1024)
	wantNat(t, "Pow(2, 1024)", n, e, value(two(1024)))
	n, e = natural.Pow(natural.From(2), 1025)
	wantErr(t, "Pow(2, 1025)", n, e, api.ErrArg)
	n, e = natural.Pow(top(), 1)
	wantNat(t, "Pow(top, 1)", n, e, value(top()))
	n, e = natural.Pow(two(64), 1024)
	wantErr(t, "Pow(2^64, 1024)", n, e, api.ErrBig)
	most := natural.From(math.MaxUint64)
	n, e = natural.Pow(most, 1024)
	wantNat(t, "Pow(2^64 - 1, 1024)", n, e, new(big.Int).Exp(value(most), big.NewInt(1024), nil))
	n, e = natural.Pow(two(32768), 2)
	wantErr(t, "Pow(2^32768, 2)", n, e, api.ErrBig)
	n, e = natural.Pow(ones(1024), 2)
	wantNat(t, "Pow(2^32768 - 1, 2)", n, e, new(big.Int).Mul(value(ones(1024)), value(ones(1024))))
	// Just the bits that a power may have, yet above: the cube of 2^21846 - 1 is, that of 2^21845 isn't.
	v := new(big.Int).Sub(value(two(21846)), big.NewInt(1))
	n, e = natural.Pow(limbs(v), 3)
	wantErr(t, "Pow(2^21846 - 1, 3)", n, e, api.ErrBig)
	n, e = natural.Pow(two(21845), 3)
	wantNat(t, "Pow(2^21845, 3)", n, e, value(two(65535)))
}

// wantRoot checks a root by powers of it and of one more.
func wantRoot(t *testing.T, n api.Nat, k int) {
	t.Helper()
	z, exact, e := natural.Root(n, k)
	if e != api.OK || !natural.May(z) {
		t.Errorf("Root %d of %d bits: error %d", k, natural.Bits(n), e)
		return
	}
	p := big.NewInt(int64(k))
	low := new(big.Int).Exp(value(z), p, nil).Cmp(value(n))
	high := new(big.Int).Exp(new(big.Int).Add(value(z), big.NewInt(1)), p, nil).Cmp(value(n))
	if low > 0 || high <= 0 || exact != (low == 0) {
		t.Errorf("Root %d of %d bits: %d %d %t", k, natural.Bits(n), low, high, exact)
	}
}

// P1.10
func TestRoot(t *testing.T) {
	for _, n := range edges() {
		for _, k := range []int{1, 2, 3, 4, 5, 10, 33, 500, 511, 512, 513, 1023, 1024} {
			wantRoot(t, n, k)
		}
	}
	d := dice(4)
	for range 400 {
		wantRoot(t, d.nat(int(d.next()%40)), 1+int(d.next()%40))
	}
	// Powers, and what stands beside them.
	for range 100 {
		k := 2 + int(d.next()%12)
		p := new(big.Int).Exp(value(d.nat(1+int(d.next()%20))), big.NewInt(int64(k)), nil)
		wantRoot(t, limbs(p), k)
		wantRoot(t, limbs(new(big.Int).Sub(p, big.NewInt(1))), k)
		wantRoot(t, limbs(new(big.Int).Add(p, big.NewInt(1))), k)
	}
	for n := range 300 {
		for k := range 12 {
			wantRoot(t, natural.From(uint64(n)), k+1)
		}
	}
}

// P1.10
func TestExamplesOfRoots(t *testing.T) {
	for _, x := range []struct {
		n     string
		k     int
		want  string
		exact bool
	}{{"ff", 2, "f", false}, {"100", 2, "10", true}, {"0", 5, "0", true}, {"7", 1, "7", true}, {"1", 1024, "1", true}, {"2", 1024, "1", false}, {"0", 1, "0", true}} {
		n, exact, e := natural.Root(hex(t, x.n), x.k)
		wantHex(t, fmt.Sprintf("Root(%s, %d)", x.n, x.k), n, e, x.want)
		if exact != x.exact {
			t.Errorf("Root(%s, %d): %t", x.n, x.k, exact)
		}
	}
	for _, k := range []int{0, -1, 1025, math.MinInt, math.MaxInt} {
		for _, n := range []api.Nat{nil, {7}, top()} {
			z, exact, e := natural.Root(n, k)
			wantErr(t, fmt.Sprint("Root ", k), z, e, api.ErrArg)
			if exact {
				t.Errorf("Root %d: true", k)
			}
		}
	}
	for _, w := range wrong() {
		for _, k := range []int{0, 1, 2, 1025} {
			z, exact, e := natural.Root(w, k)
			wantErr(t, "Root of a wrong list", z, e, api.ErrNat)
			if exact {
				t.Error("Root of a wrong list: true")
			}
		}
	}
}

// wantGcdLcm holds Gcd and Lcm against the other library.
func wantGcdLcm(t *testing.T, a, b api.Nat) {
	t.Helper()
	x, y := value(a), value(b)
	g := new(big.Int).GCD(nil, nil, x, y)
	n, e := natural.Gcd(a, b)
	wantNat(t, fmt.Sprintf("Gcd of %d and %d limbs", len(a), len(b)), n, e, g)
	l := new(big.Int)
	if g.Sign() > 0 {
		l.Div(l.Mul(x, y), g)
	}
	n, e = natural.Lcm(a, b)
	wantFit(t, fmt.Sprintf("Lcm of %d and %d limbs", len(a), len(b)), n, e, l)
}

// P1.11
func TestGcdLcm(t *testing.T) {
	for _, a := range edges() {
		for _, b := range edges() {
			wantGcdLcm(t, a, b)
		}
	}
	d := dice(5)
	for range 3000 {
		c := value(d.nat(int(d.next() % 6)))
		a := new(big.Int).Mul(c, value(d.nat(int(d.next()%7))))
		b := new(big.Int).Mul(c, value(d.nat(int(d.next()%7))))
		wantGcdLcm(t, limbs(a), limbs(b))
	}
	for range 40 {
		wantGcdLcm(t, d.nat(int(d.next()%300)), d.nat(int(d.next()%300)))
	}
	// Neighbours in Fibonacci's row: every step of Euclid's takes the divisor once.
	x, y := big.NewInt(1), big.NewInt(1)
	for range 3000 {
		x, y = y, new(big.Int).Add(x, y)
	}
	wantGcdLcm(t, limbs(x), limbs(y))
	wantGcdLcm(t, limbs(new(big.Int).Lsh(y, 70)), limbs(new(big.Int).Lsh(x, 99)))
	for _, x := range [][4]uint64{{12, 8, 4, 24}, {0, 7, 7, 0}, {7, 0, 7, 0}, {0, 0, 0, 0}, {4, 6, 2, 12}, {1, 9, 1, 9}} {
		n, e := natural.Gcd(natural.From(x[0]), natural.From(x[1]))
		wantNat(t, fmt.Sprintf("Gcd(%d, %d)", x[0], x[1]), n, e, new(big.Int).SetUint64(x[2]))
		n, e = natural.Lcm(natural.From(x[0]), natural.From(x[1]))
		wantNat(t, fmt.Sprintf("Lcm(%d, %d)", x[0], x[1]), n, e, new(big.Int).SetUint64(x[3]))
	}
	n, e := natural.Lcm(top(), two(1))
	wantErr(t, "Lcm(top, 2)", n, e, api.ErrBig)
	n, e = natural.Lcm(top(), top())
	wantNat(t, "Lcm(top, top)", n, e, value(top()))
}
