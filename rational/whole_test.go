package rational_test

import (
	"math/big"
	"testing"

	"slope/api"
	"slope/rational"
)

// bigFloor is the greatest whole number not above v.
func bigFloor(v *big.Rat) *big.Int { return new(big.Int).Div(v.Num(), v.Denom()) }

// bigCeil is the least whole number not below v.
func bigCeil(v *big.Rat) *big.Int {
	z := bigFloor(new(big.Rat).Neg(v))
	return z.Neg(z)
}

// bigRound is the nearest whole number, of two the even one.
func bigRound(v *big.Rat) *big.Int {
	low := bigFloor(v)
	switch new(big.Rat).Sub(v, new(big.Rat).SetInt(low)).Cmp(big.NewRat(1, 2)) {
	case -1:
		return low
	case 0:
		if low.Bit(0) == 0 {
			return low
		}
	}
	return low.Add(low, big.NewInt(1))
}

// P2.6
func TestToWhole(t *testing.T) {
	for _, c := range []struct{ r, floor, ceil, round string }{
		{"-3/2", "-2", "-1", "-2"}, {"5/2", "2", "3", "2"}, {"-1/2", "-1", "0", "0"}, {"1/2", "0", "1", "0"}, {"3/2", "1", "2", "2"}, {"-5/2", "-3", "-2", "-2"},
	} {
		r, e := rational.Floor(num(c.r))
		wantText(t, "Floor", r, e, c.floor)
		r, e = rational.Ceil(num(c.r))
		wantText(t, "Ceil", r, e, c.ceil)
		r, e = rational.Round(num(c.r))
		wantText(t, "Round", r, e, c.round)
	}
	for _, l := range [][]api.Rat{small(), medium(), large()} {
		for _, a := range l {
			r, e := rational.Floor(a)
			wantValue(t, "Floor", r, e, new(big.Rat).SetInt(bigFloor(value(a))))
			r, e = rational.Ceil(a)
			wantValue(t, "Ceil", r, e, new(big.Rat).SetInt(bigCeil(value(a))))
			r, e = rational.Round(a)
			wantValue(t, "Round", r, e, new(big.Rat).SetInt(bigRound(value(a))))
		}
	}
}

// checkDivide holds Divide against the other library.
func checkDivide(t *testing.T, a, b api.Rat) {
	t.Helper()
	q, left, e := rational.Divide(a, b)
	what := "Divide of " + show(a) + " by " + show(b)
	if len(b.Num) == 0 {
		wantErr(t, what, q, e, api.ErrZero)
		wantErr(t, what, left, e, api.ErrZero)
		return
	}
	n := new(big.Rat).SetInt(bigFloor(new(big.Rat).Quo(value(a), value(b))))
	rest := new(big.Rat).Sub(value(a), new(big.Rat).Mul(n, value(b)))
	if tooLarge(n) || tooLarge(rest) {
		wantErr(t, what, q, e, api.ErrBig)
		wantErr(t, what, left, e, api.ErrBig)
		return
	}
	wantValue(t, what, q, e, n)
	wantValue(t, what+": what is left", left, e, rest)
}

// P2.6
func TestDivide(t *testing.T) {
	t.Parallel()
	for _, c := range []struct{ a, b, q, left string }{{"-7", "2", "-4", "1"}, {"7", "-2", "-4", "-1"}, {"-7", "-2", "3", "-1"}, {"7/2", "1/3", "10", "1/6"}, {"-6", "-2", "3", "0"}, {"0", "-5/3", "0", "0"}} {
		q, left, e := rational.Divide(num(c.a), num(c.b))
		wantText(t, "Divide", q, e, c.q)
		wantText(t, "what is left", left, e, c.left)
	}
	for _, l := range [][]api.Rat{small(), medium()} {
		for _, a := range l {
			for _, b := range l {
				checkDivide(t, a, b)
			}
		}
	}
	l := large()
	for i, a := range l {
		for _, b := range []api.Rat{num("-1"), num("2/3"), l[(i+1)%len(l)], l[(i+3)%len(l)]} {
			checkDivide(t, a, b)
			checkDivide(t, b, a)
		}
	}
}

// P2.6: the floor at the border and above it, what is left above it, and all that is too large on the way only.
func TestDivideAtTheBorder(t *testing.T) {
	half := num("1/2")
	checkDivide(t, wholeOf(less(two(65535), 1)), half)
	checkDivide(t, wholeOf(two(65535)), half)
	checkDivide(t, wholeOf(two(65535)), negative(half))
	checkDivide(t, over(top(), big.NewInt(2)), half)
	// The floor's size is the greatest one, or one more than that below 0.
	checkDivide(t, over(less(two(65536), 1), big.NewInt(2)), num("1/2"))
	checkDivide(t, negative(wholeOf(top())), num("1"))
	third := new(big.Rat).SetFrac(top(), big.NewInt(7))
	checkDivide(t, number(third), num("1/7"))
	checkDivide(t, number(new(big.Rat).Neg(third)), num("2/7"))
	d := dice(5)
	n, m := d.nat(2047), d.nat(2047)
	checkDivide(t, over(n, m), over(less(n, 2), m))
	checkDivide(t, over(big.NewInt(-3), n), over(big.NewInt(1), m))
	checkDivide(t, over(n, d.nat(1500)), over(m, d.nat(1500)))
	checkDivide(t, negative(over(n, big.NewInt(3))), over(m, n))
	// Divisors whose upper half tells the quotient badly.
	for _, low := range []*big.Int{big.NewInt(1), less(two(32768), 1)} {
		for _, high := range []*big.Int{two(32767), less(two(32768), 1), big.NewInt(1)} {
			b := new(big.Int).Add(new(big.Int).Mul(high, two(32768)), low)
			checkDivide(t, wholeOf(top()), over(b, two(40000)))
			checkDivide(t, wholeOf(less(b, 1)), over(b, less(two(50000), 1)))
		}
	}
}
