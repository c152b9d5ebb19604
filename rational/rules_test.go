package rational_test

import (
	"testing"

	"slope/api"
	"slope/rational"
)

// must is the answer of a call that is not refused, and that may be.
func must(t *testing.T) func(r api.Rat, e api.Errno) api.Rat {
	return func(r api.Rat, e api.Errno) api.Rat {
		t.Helper()
		if e != api.OK || !rational.May(r) {
			t.Fatalf("refused, or no number: %s, error %d", show(r), e)
		}
		return r
	}
}

// wantSame fails if two ways to one number come to two.
func wantSame(t *testing.T, rule string, a, b api.Rat) {
	t.Helper()
	if !same(a, b) || rational.Cmp(a, b) != 0 {
		t.Errorf("%s: %s and %s", rule, show(a), show(b))
	}
}

// triples calls f with numbers of some limbs, three by three.
func triples(f func(a, b, c api.Rat)) {
	d := dice(13)
	l := nums("0", "1", "-1", "1/2", "-3/2", "4294967295/7", "-18446744073709551616/3")
	l = append(l, d.rat(1, 1), d.rat(2, 3), d.rat(6, 5), d.rat(40, 50))
	for _, a := range l {
		for _, b := range l {
			for _, c := range l {
				f(a, b, c)
			}
		}
	}
}

// P2.11
func TestRulesOfThree(t *testing.T) {
	t.Parallel()
	ok := must(t)
	triples(func(a, b, c api.Rat) {
		ab, bc := ok(rational.Add(a, b)), ok(rational.Add(b, c))
		wantSame(t, "Add is commutative", ab, ok(rational.Add(b, a)))
		wantSame(t, "Add is associative", ok(rational.Add(ab, c)), ok(rational.Add(a, bc)))
		wantSame(t, "Sum", ok(rational.Sum(a, b, c)), ok(rational.Add(ab, c)))
		p, q := ok(rational.Mul(a, b)), ok(rational.Mul(b, c))
		wantSame(t, "Mul is commutative", p, ok(rational.Mul(b, a)))
		wantSame(t, "Mul is associative", ok(rational.Mul(p, c)), ok(rational.Mul(a, q)))
		wantSame(t, "Mul goes over Add", ok(rational.Mul(a, bc)), ok(rational.Add(p, ok(rational.Mul(a, c)))))
		wantSame(t, "Product", ok(rational.Product(a, b, c)), ok(rational.Mul(p, c)))
		wantSame(t, "Dot", ok(rational.Dot([]api.Rat{a, b}, []api.Rat{b, c})), ok(rational.Add(p, q)))
		order := rational.Cmp(a, b)
		if rational.Cmp(b, a) != -order || rational.Cmp(ok(rational.Add(a, c)), bc) != order {
			t.Error("Cmp is an order that Add keeps")
		}
		if rational.Sign(c) > 0 && rational.Cmp(ok(rational.Mul(a, c)), q) != order {
			t.Error("Mul by a number above 0 keeps the order")
		}
		if order <= 0 && rational.Cmp(b, c) <= 0 && rational.Cmp(a, c) > 0 {
			t.Error("Cmp is transitive")
		}
	})
}

// P2.11
func TestRulesOfTwo(t *testing.T) {
	ok := must(t)
	zero, one := rational.FromInt(0), rational.FromInt(1)
	triples(func(a, b, _ api.Rat) {
		wantSame(t, "0 does nothing", ok(rational.Add(a, zero)), a)
		wantSame(t, "1 does nothing", ok(rational.Mul(one, a)), a)
		wantSame(t, "Sub undoes Add", ok(rational.Sub(ok(rational.Add(a, b)), b)), a)
		wantSame(t, "Sub is Add of Neg", ok(rational.Sub(a, b)), ok(rational.Add(a, ok(rational.Neg(b)))))
		if rational.Sign(b) == 0 {
			return
		}
		wantSame(t, "Div undoes Mul", ok(rational.Div(ok(rational.Mul(a, b)), b)), a)
		wantSame(t, "Div is Mul by Inv", ok(rational.Div(a, b)), ok(rational.Mul(a, ok(rational.Inv(b)))))
		q, left, e := rational.Divide(a, b)
		wantSame(t, "Divide", ok(rational.Add(ok(rational.Mul(ok(q, e), b)), ok(left, e))), a)
		wantSame(t, "Divide's floor", q, ok(rational.Floor(ok(rational.Div(a, b)))))
	})
}
