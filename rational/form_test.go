package rational_test

import (
	"math"
	"math/big"
	"testing"

	"slope/api"
	"slope/rational"
)

// P2.1
func TestMay(t *testing.T) {
	for _, l := range [][]api.Rat{small(), medium(), large()} {
		for _, r := range l {
			if !rational.May(r) {
				t.Errorf("may not be: %s", show(r))
			}
		}
	}
	for i, r := range wrong() {
		if rational.May(r) {
			t.Errorf("wrong number %d may be", i)
		}
	}
	if !rational.May(api.Rat{Num: api.Nat{}, Den: api.Nat{1}}) {
		t.Error("0 with an empty list may not be")
	}
}

// P2.2
func TestMake(t *testing.T) {
	r, e := rational.Make(true, api.Nat{6}, api.Nat{4})
	wantText(t, "Make(-6/4)", r, e, "-3/2")
	r, e = rational.Make(false, nil, api.Nat{7})
	wantText(t, "Make(0/7)", r, e, "0")
	r, e = rational.Make(true, nil, api.Nat{7})
	wantText(t, "Make(-0/7)", r, e, "0")
	d := dice(1)
	lists := []*big.Int{big.NewInt(0), big.NewInt(1), big.NewInt(2), two(32), two(65535), top(), d.nat(2), d.nat(60), new(big.Int).Mul(d.nat(900), d.nat(1100))}
	for _, n := range lists {
		for _, m := range lists {
			for _, neg := range []bool{false, true} {
				r, e := rational.Make(neg, limbs(n), limbs(m))
				if m.Sign() == 0 {
					wantErr(t, "Make over 0", r, e, api.ErrZero)
					continue
				}
				v := new(big.Rat).SetFrac(n, m)
				if neg {
					v.Neg(v)
				}
				wantValue(t, "Make", r, e, v)
			}
		}
	}
	bad := []api.Nat{{0}, {1, 0}, make(api.Nat, 2049), append(limbs(top()), 1)}
	for _, n := range bad {
		for _, m := range append(bad, nil, api.Nat{1}) {
			r, e = rational.Make(false, n, m)
			wantErr(t, "Make of what is no natural", r, e, api.ErrNat)
			r, e = rational.Make(true, m, n)
			wantErr(t, "Make over what is no natural", r, e, api.ErrNat)
		}
	}
}

// P2.2
func TestInts(t *testing.T) {
	for _, n := range []int{0, 1, -1, 7, -7, 1<<32 - 1, 1 << 32, -1 << 32, math.MaxInt, math.MaxInt - 1, math.MinInt, math.MinInt + 1} {
		r := rational.FromInt(n)
		wantValue(t, "FromInt", r, api.OK, new(big.Rat).SetInt64(int64(n)))
		if m, ok := rational.Int(r); m != n || !ok {
			t.Errorf("Int(FromInt(%d)): %d, %v", n, m, ok)
		}
	}
	none := nums("1/2", "-3/2", "9223372036854775808", "-9223372036854775809", "18446744073709551616", "-18446744073709551616", "1/9223372036854775807", "18446744073709551615")
	for _, r := range append(append(none, wrong()...), large()...) {
		if m, ok := rational.Int(r); m != 0 || ok {
			t.Errorf("Int of %s: %d, %v", show(r), m, ok)
		}
	}
}

// P2.3
func TestSign(t *testing.T) {
	for _, l := range [][]api.Rat{small(), medium(), large()} {
		for _, r := range l {
			if got, want := rational.Sign(r), value(r).Sign(); got != want {
				t.Errorf("Sign of %s: %d", show(r), got)
			}
		}
	}
}

// P2.3
func TestCmp(t *testing.T) {
	t.Parallel()
	for _, l := range [][]api.Rat{small(), medium(), append(large(), nums("0", "1", "-7/3")...)} {
		for _, a := range l {
			for _, b := range l {
				if got, want := rational.Cmp(a, b), value(a).Cmp(value(b)); got != want {
					t.Errorf("Cmp of %s and %s: %d", show(a), show(b), got)
				}
			}
		}
	}
}

// P2.3: products of the greatest sizes that are 1 apart, with either sign.
func TestCmpOfNeighbours(t *testing.T) {
	n := less(two(65535), 2)
	m := less(two(65535), 1)
	a, b := over(n, m), over(less(n, 1), less(m, 1))
	for _, c := range []struct {
		x, y api.Rat
		want int
	}{{a, b, 1}, {b, a, -1}, {a, a, 0}, {negative(a), negative(b), -1}, {negative(b), negative(a), 1}, {negative(a), b, -1}, {b, negative(a), 1}} {
		if got := rational.Cmp(c.x, c.y); got != c.want {
			t.Errorf("Cmp of neighbours: %d, want %d", got, c.want)
		}
	}
}

// P2.3
func TestSignAndCmpOfWrong(t *testing.T) {
	for i, r := range wrong() {
		if rational.Sign(r) != 0 || rational.Cmp(r, num("1")) != 0 || rational.Cmp(num("-1"), r) != 0 || rational.Cmp(r, r) != 0 {
			t.Errorf("wrong number %d has a sign or an order", i)
		}
	}
}
