package natural_test

import (
	"math/big"
	"slices"
	"testing"

	"slope/api"
	"slope/natural"
)

// must is the answer of a call that is not refused, and that may be.
func must(t *testing.T) func(n api.Nat, e api.Errno) api.Nat {
	return func(n api.Nat, e api.Errno) api.Nat {
		t.Helper()
		if e != api.OK || !natural.May(n) {
			t.Fatalf("refused, or no natural: %d limbs, error %d", len(n), e)
		}
		return n
	}
}

// same fails if two ways to one natural come to two.
func same(t *testing.T, rule string, a, b api.Nat) {
	t.Helper()
	if !slices.Equal(a, b) || natural.Cmp(a, b) != 0 {
		t.Errorf("%s: %d limbs and %d", rule, len(a), len(b))
	}
}

// triples calls f with naturals of which three can be multiplied.
func triples(f func(a, b, c api.Nat)) {
	d := dice(6)
	l := []api.Nat{nil, {1}, {2}, {1<<32 - 1}, {0, 1}, ones(2), two(511), ones(48), ones(96)}
	for _, n := range []int{1, 2, 5, 48, 50, 97, 150} {
		l = append(l, d.nat(n))
	}
	for _, a := range l {
		for _, b := range l {
			for _, c := range l {
				f(a, b, c)
			}
		}
	}
}

// P1.14
func TestRulesOfThree(t *testing.T) {
	ok := must(t)
	triples(func(a, b, c api.Nat) {
		ab, bc := ok(natural.Add(a, b)), ok(natural.Add(b, c))
		same(t, "Add is commutative", ab, ok(natural.Add(b, a)))
		same(t, "Add is associative", ok(natural.Add(ab, c)), ok(natural.Add(a, bc)))
		same(t, "Sub undoes Add", ok(natural.Sub(ab, b)), a)
		same(t, "Sum", ok(natural.Sum(a, b, c)), ok(natural.Add(ab, c)))
		p, q := ok(natural.Mul(a, b)), ok(natural.Mul(b, c))
		same(t, "Mul is commutative", p, ok(natural.Mul(b, a)))
		same(t, "Mul is associative", ok(natural.Mul(p, c)), ok(natural.Mul(a, q)))
		same(t, "Mul goes over Add", ok(natural.Mul(a, bc)), ok(natural.Add(p, ok(natural.Mul(a, c)))))
		same(t, "Product", ok(natural.Product(a, b, c)), ok(natural.Mul(p, c)))
		order := natural.Cmp(a, b)
		if natural.Cmp(b, a) != -order || natural.Cmp(ok(natural.Add(a, c)), bc) != order {
			t.Error("Cmp is an order that Add keeps")
		}
		if len(c) > 0 && natural.Cmp(ok(natural.Mul(a, c)), q) != order {
			t.Error("Mul by a number above 0 keeps the order")
		}
		if order <= 0 && natural.Cmp(b, c) <= 0 && natural.Cmp(a, c) > 0 {
			t.Error("Cmp is transitive")
		}
	})
}

// P1.14
func TestRulesOfTwo(t *testing.T) {
	ok := must(t)
	one := natural.From(1)
	triples(func(a, b, c api.Nat) {
		same(t, "0 does nothing", ok(natural.Add(a, nil)), a)
		same(t, "1 does nothing", ok(natural.Mul(one, a)), a)
		d, greater, e := natural.Diff(a, b)
		if greater {
			same(t, "Diff", ok(d, e), ok(natural.Sub(b, a)))
		} else {
			same(t, "Diff", ok(d, e), ok(natural.Sub(a, b)))
		}
		if len(b) > 0 {
			q, r, e := natural.DivMod(a, b)
			same(t, "DivMod", ok(natural.Add(ok(natural.Mul(ok(q, e), b)), ok(r, e))), a)
			if natural.Cmp(r, b) >= 0 {
				t.Error("DivMod's remainder is not below the divisor")
			}
		}
		and, or := ok(natural.And(a, b)), ok(natural.Or(a, b))
		xor, not := ok(natural.Xor(a, b)), ok(natural.Not(a, b))
		same(t, "And plus Not", ok(natural.Add(and, not)), a)
		same(t, "And plus Xor", ok(natural.Add(and, xor)), or)
		if (natural.Ones(xor) == 0) != (natural.Cmp(a, b) == 0) {
			t.Error("Ones of Xor")
		}
		g, l := ok(natural.Gcd(a, b)), ok(natural.Lcm(a, b))
		same(t, "Gcd times Lcm", ok(natural.Mul(g, l)), ok(natural.Mul(a, b)))
		if len(c) > 0 && divides(c, g) != (divides(c, a) && divides(c, b)) {
			t.Error("a number divides Gcd just if it divides both")
		}
	})
}

// divides tells whether d, above 0, divides n.
func divides(d, n api.Nat) bool {
	_, r, _ := natural.DivMod(n, d)
	return len(r) == 0
}

// P1.14
func TestRulesOfPowers(t *testing.T) {
	ok := must(t)
	d := dice(7)
	for _, size := range []int{0, 1, 2, 9, 40} {
		n := d.nat(size)
		for j := range 6 {
			for k := range 6 {
				same(t, "Pow of a sum", ok(natural.Pow(n, j+k)), ok(natural.Mul(ok(natural.Pow(n, j)), ok(natural.Pow(n, k)))))
			}
		}
		for _, k := range []int{0, 1, 31, 32, 33, 500, 1024} {
			p := ok(natural.Pow(natural.From(2), k))
			same(t, "Shl is Mul by Pow of 2", ok(natural.Shl(n, k)), ok(natural.Mul(n, p)))
			q, _, e := natural.DivMod(n, p)
			same(t, "Shr is DivMod by Pow of 2", ok(natural.Shr(n, k)), ok(q, e))
		}
		for k := range 20 {
			z, exact, e := natural.Root(n, k+1)
			low := natural.Cmp(ok(natural.Pow(ok(z, e), k+1)), n)
			high := natural.Cmp(ok(natural.Pow(ok(natural.Add(z, natural.From(1))), k+1)), n)
			if low > 0 || high <= 0 || exact != (low == 0) {
				t.Errorf("Root %d of %d limbs", k+1, size)
			}
		}
	}
}

// P1.14: there and back, for naturals of every length up to a border's few.
func TestRulesOfTexts(t *testing.T) {
	ok := must(t)
	d := dice(8)
	for size := range 130 {
		n := d.nat(size)
		b, e := natural.Bytes(n)
		if e != api.OK {
			t.Fatal("Bytes", e)
		}
		same(t, "FromBytes of Bytes", ok(natural.FromBytes(b)), n)
		s, e := natural.Print(n, 2+size%35)
		if e != api.OK {
			t.Fatal("Print", e)
		}
		m, _, e := natural.Parse(s, 2+size%35)
		same(t, "Parse of Print", ok(m, e), n)
		if natural.Bits(n) != new(big.Int).SetBytes(b).BitLen() {
			t.Error("Bits")
		}
	}
}
