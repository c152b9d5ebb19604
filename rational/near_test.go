package rational_test

import (
	"math"
	"math/big"
	"testing"

	"slope/api"
	"slope/rational"
)

// plainBetween goes down the continued fractions of two numbers above 0 term by term.
func plainBetween(a, b *big.Rat) *big.Rat {
	var terms []*big.Int
	n, m, v, w := a.Num(), a.Denom(), b.Num(), b.Denom()
	for {
		q, left := new(big.Int).DivMod(n, m, new(big.Int))
		p, rest := new(big.Int).DivMod(v, w, new(big.Int))
		if left.Sign() == 0 {
			terms = append(terms, q)
			break
		}
		if q.Cmp(p) != 0 {
			terms = append(terms, q.Add(q, big.NewInt(1)))
			break
		}
		terms = append(terms, q)
		n, m, v, w = w, rest, m, left
	}
	n, m = big.NewInt(1), big.NewInt(0)
	for i := len(terms) - 1; i >= 0; i-- {
		n, m = m.Add(m, terms[i].Mul(terms[i], n)), n
	}
	return new(big.Rat).SetFrac(n, m)
}

// bruteBetween looks at one Den after the other.
func bruteBetween(a, b *big.Rat) *big.Rat {
	for d := int64(1); ; d++ {
		den := new(big.Rat).SetInt64(d)
		low, high := bigCeil(new(big.Rat).Mul(a, den)), bigFloor(new(big.Rat).Mul(b, den))
		if low.Cmp(high) > 0 {
			continue
		}
		switch {
		case low.Sign() > 0:
			return new(big.Rat).SetFrac(low, big.NewInt(d))
		case high.Sign() < 0:
			return new(big.Rat).SetFrac(high, big.NewInt(d))
		}
		return new(big.Rat)
	}
}

// P2.10
func TestBetween(t *testing.T) {
	for _, c := range []struct{ a, b, want string }{
		{"3/10", "1/3", "1/3"}, {"-5", "2", "0"}, {"31/10", "16/5", "16/5"}, {"157/50", "63/20", "22/7"}, {"-16/5", "-31/10", "-16/5"}, {"5/2", "9", "3"}, {"-9", "-5/2", "-3"}, {"7/3", "7/3", "7/3"}, {"0", "1", "0"}, {"-1", "0", "0"}, {"0", "0", "0"}, {"1/3", "1/2", "1/2"}, {"2/3", "5/3", "1"},
	} {
		r, e := rational.Between(num(c.a), num(c.b))
		wantText(t, "Between("+c.a+", "+c.b+")", r, e, c.want)
	}
	l := small()
	for n := int64(-40); n <= 40; n++ {
		l = append(l, number(big.NewRat(n, 29)), number(big.NewRat(n, 31)))
	}
	for _, a := range l {
		for _, b := range l {
			r, e := rational.Between(a, b)
			if value(a).Cmp(value(b)) > 0 {
				wantErr(t, "Between the wrong way round", r, e, api.ErrSpan)
			} else {
				wantValue(t, "Between "+show(a)+" and "+show(b), r, e, bruteBetween(value(a), value(b)))
			}
		}
	}
}

// checkBetween holds Between of two numbers above 0, and of their negatives, against the plain way.
func checkBetween(t *testing.T, a, b *big.Rat) {
	t.Helper()
	if a.Cmp(b) > 0 {
		a, b = b, a
	}
	want := plainBetween(a, b)
	r, e := rational.Between(number(a), number(b))
	wantValue(t, "Between", r, e, want)
	r, e = rational.Between(negative(number(b)), negative(number(a)))
	wantValue(t, "Between below 0", r, e, new(big.Rat).Neg(want))
	if r, e = rational.Between(number(b), number(a)); a.Cmp(b) != 0 {
		wantErr(t, "Between the wrong way round", r, e, api.ErrSpan)
	}
}

// P2.10: numbers of many lengths that have much or little in common.
func TestBetweenLong(t *testing.T) {
	t.Parallel()
	d := dice(10)
	for _, size := range []int{1, 2, 3, 4, 5, 8, 13, 30, 70} {
		for range 12 {
			a := value(d.rat(size, size))
			a.Abs(a)
			b := value(d.rat(size, size))
			checkBetween(t, a, b.Abs(b))
			checkBetween(t, a, a)
			for _, k := range []int{1, 20, 31, 32, 61, 62, 63, 64, 90, 16 * size, 32 * size, 40 * size, 64 * size, 65 * size} {
				bit := new(big.Rat).SetFrac(big.NewInt(1), two(k))
				checkBetween(t, a, new(big.Rat).Add(a, bit))
				checkBetween(t, a, new(big.Rat).SetFrac(bigCeil(new(big.Rat).Quo(a, bit)), two(k)))
			}
		}
	}
}

// P2.10: terms that are huge, or all 1.
func TestBetweenOddTerms(t *testing.T) {
	for _, l := range [][]api.Rat{
		{num("0"), wholeOf(two(300)), num("5"), wholeOf(two(100)), num("7")},
		{num("3"), num("1"), wholeOf(two(500)), wholeOf(two(500))},
		{wholeOf(two(700)), num("2"), num("3")},
		{num("0"), num("1"), wholeOf(two(62)), wholeOf(less(two(62), 1)), wholeOf(two(63)), wholeOf(two(64))},
	} {
		r, _ := rational.FromTerms(l)
		for i := range l {
			s, _ := rational.FromTerms(append(append([]api.Rat{}, l[:i+1]...), num("9"), num("4")))
			checkBetween(t, value(r), value(s))
		}
	}
	for _, n := range []int{10, 80, 90, 91, 92, 93, 94, 500, 3000} {
		checkBetween(t, value(golden(n)), value(golden(n+1)))
		checkBetween(t, value(golden(n)), value(golden(n/2)))
	}
}

// P2.10: numbers of the greatest size; never too large.
func TestBetweenLarge(t *testing.T) {
	t.Parallel()
	d := dice(11)
	a := value(d.rat(2047, 2047))
	a.Abs(a)
	checkBetween(t, a, new(big.Rat).SetFrac(less(a.Num(), 1), a.Denom()))
	// Neighbours of whose terms there are the most; the simpler one is the simplest.
	f, g := golden(94388), golden(94390)
	low, high := f, g
	if value(f).Cmp(value(g)) > 0 {
		low, high = g, f
	}
	s, e := rational.Between(low, high)
	wantValue(t, "Between long golden ones", s, e, value(f))
	if len(g.Num) != api.MaxLimbs {
		t.Error("the test itself: not of the greatest size")
	}
	checkBetween(t, new(big.Rat).SetInt(top()), new(big.Rat).SetFrac(top(), big.NewInt(2)))
	r, e := rational.Between(wholeOf(top()), wholeOf(top()))
	wantValue(t, "Between the greatest", r, e, new(big.Rat).SetInt(top()))
	r, e = rational.Between(over(big.NewInt(1), top()), over(big.NewInt(1), top()))
	wantValue(t, "Between the least", r, e, new(big.Rat).SetFrac(big.NewInt(1), top()))
	r, e = rational.Between(over(big.NewInt(1), top()), over(big.NewInt(2), top()))
	wantValue(t, "Between small ones", r, e, new(big.Rat).SetFrac(big.NewInt(1), two(65535)))
}

// bruteNear looks at one Den after the other, and in each at the numbers around v.
func bruteNear(v *big.Rat, most int64) *big.Rat {
	var best, dist *big.Rat
	for d := int64(1); d <= most; d++ {
		low := bigFloor(new(big.Rat).Mul(v, new(big.Rat).SetInt64(d)))
		for range 2 {
			r := new(big.Rat).SetFrac(low, big.NewInt(d))
			away := new(big.Rat).Sub(r, v)
			away.Abs(away)
			// Lesser Dens, and lower numbers of one Den, come first.
			if best == nil || away.Cmp(dist) < 0 {
				best, dist = r, away
			}
			low = new(big.Int).Add(low, big.NewInt(1))
		}
	}
	return best
}

// P2.10
func TestNear(t *testing.T) {
	t.Parallel()
	for _, c := range []struct {
		r    string
		most int
		want string
	}{
		{"314159/100000", 100, "311/99"}, {"1/2", 1, "0"}, {"-1/2", 1, "-1"}, {"3/2", 1, "1"}, {"7/5", 5, "7/5"}, {"7/5", 4, "4/3"}, {"5/12", 3, "1/2"}, {"7/12", 3, "1/2"}, {"-5/12", 3, "-1/2"}, {"314159265358979/100000000000000", 1000, "355/113"}, {"1/1000", 3, "0"}, {"0", 1, "0"}, {"9", 1 << 40, "9"},
	} {
		r, e := rational.Near(num(c.r), c.most)
		wantText(t, "Near("+c.r+")", r, e, c.want)
	}
	l := small()
	for n := int64(-60); n <= 60; n++ {
		l = append(l, number(big.NewRat(n, 48)), number(big.NewRat(n, 53)))
	}
	for _, a := range append(l, medium()...) {
		for most := 1; most <= 40; most += 1 + most/6 {
			r, e := rational.Near(a, most)
			wantValue(t, "Near "+show(a), r, e, bruteNear(value(a), int64(most)))
		}
	}
}

// P2.10
func TestNearOutOfRange(t *testing.T) {
	for _, most := range []int{0, -1, 1<<40 + 1, math.MinInt, math.MaxInt} {
		for _, s := range []string{"0", "22/7"} {
			r, e := rational.Near(num(s), most)
			wantErr(t, "Near out of range", r, e, api.ErrArg)
		}
	}
}

// P2.10: the Dens up to the greatest; nothing nearer has so small a Den.
func TestNearManyDens(t *testing.T) {
	d := dice(12)
	for _, size := range []int{2, 3, 6, 20} {
		for range 10 {
			a := value(d.rat(size, size))
			for _, most := range []int{1000, 1<<32 - 1, 1<<40 - 1, 1 << 40} {
				r, e := rational.Near(number(a), most)
				if e != api.OK || natValue(r.Den).Cmp(big.NewInt(int64(most))) > 0 {
					t.Fatalf("Near: %s, error %d", show(r), e)
				}
				away := new(big.Rat).Sub(value(r), a)
				away.Abs(away)
				if away.Sign() == 0 {
					continue
				}
				// Hardly nearer than the answer there are only greater Dens.
				away.Mul(away, new(big.Rat).SetFrac(less(two(200), 1), two(200)))
				s, e := rational.Between(number(new(big.Rat).Sub(a, away)), number(new(big.Rat).Add(a, away)))
				if e != api.OK || natValue(s.Den).Cmp(big.NewInt(int64(most))) <= 0 {
					t.Errorf("Near of %s, %d: %s is nearer than %s", show(number(a)), most, show(s), show(r))
				}
			}
		}
	}
}

// P2.10: numbers of the greatest size; never too large.
func TestNearLarge(t *testing.T) {
	for _, d := range []int64{2, 3, 7, 1<<40 + 15} {
		for _, n := range []*big.Int{top(), less(top(), 1), two(65535)} {
			for _, most := range []int{1, 2, 6, 30} {
				v := new(big.Rat).SetFrac(n, big.NewInt(d))
				for range 2 {
					r, e := rational.Near(number(v), most)
					wantValue(t, "Near of a large number", r, e, bruteNear(v, int64(most)))
					v = new(big.Rat).Neg(v)
				}
			}
		}
	}
	r, e := rational.Near(over(top(), big.NewInt(1<<40+15)), 1<<40)
	if e != api.OK || !rational.May(r) {
		t.Errorf("Near of a large number: %s, error %d", show(r), e)
	}
	r, e = rational.Near(over(big.NewInt(1), top()), 1<<40)
	wantText(t, "Near of the least", r, e, "0")
	r, e = rational.Near(over(less(top(), 1), top()), 1<<40)
	wantText(t, "Near of what is hardly below 1", r, e, "1")
	r, e = rational.Near(negative(wholeOf(top())), 1)
	wantValue(t, "Near of a whole number", r, e, value(negative(wholeOf(top()))))
}
