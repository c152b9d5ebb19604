package rational_test

import (
	"math"
	"math/big"
	"testing"

	"slope/api"
	"slope/rational"
)

// pairCall is a call of two numbers that answers one, and what it should answer.
type pairCall struct {
	name string
	call func(a, b api.Rat) (api.Rat, api.Errno)
	want func(z, a, b *big.Rat) *big.Rat
}

func pairCalls() []pairCall {
	return []pairCall{
		{"Add", rational.Add, (*big.Rat).Add}, {"Sub", rational.Sub, (*big.Rat).Sub},
		{"Mul", rational.Mul, (*big.Rat).Mul}, {"Div", rational.Div, (*big.Rat).Quo},
	}
}

// checkPair holds the four calls of two numbers against the other library.
func checkPair(t *testing.T, a, b api.Rat) {
	t.Helper()
	for _, c := range pairCalls() {
		r, e := c.call(a, b)
		if c.name == "Div" && len(b.Num) == 0 {
			wantErr(t, "Div by 0", r, e, api.ErrZero)
			continue
		}
		wantValue(t, c.name+" of "+show(a)+" and "+show(b), r, e, c.want(new(big.Rat), value(a), value(b)))
	}
}

// P2.4
func TestFour(t *testing.T) {
	for _, l := range [][]api.Rat{small(), medium()} {
		for _, a := range l {
			for _, b := range l {
				checkPair(t, a, b)
			}
		}
	}
}

// P2.4: numbers of the greatest sizes, with one another and with small ones.
func TestFourOfLarge(t *testing.T) {
	t.Parallel()
	l := large()
	for i, a := range l {
		checkPair(t, a, num("-2/3"))
		checkPair(t, num("0"), a)
		checkPair(t, a, l[(i+1)%len(l)])
		checkPair(t, a, l[(i+3)%len(l)])
	}
}

// P2.4: a result just at MaxLimbs limbs, and one just too large, above and below.
func TestFourAtTheBorder(t *testing.T) {
	one := num("1")
	r, e := rational.Add(wholeOf(less(top(), 1)), one)
	wantValue(t, "Add up to the greatest", r, e, new(big.Rat).SetInt(top()))
	r, e = rational.Add(wholeOf(top()), one)
	wantErr(t, "Add above the greatest", r, e, api.ErrBig)
	r, e = rational.Sub(negative(wholeOf(top())), one)
	wantErr(t, "Sub below the least", r, e, api.ErrBig)
	low, high := over(less(two(32768), 1), big.NewInt(1)), wholeOf(new(big.Int).Add(two(32768), big.NewInt(1)))
	r, e = rational.Mul(low, high)
	wantValue(t, "Mul up to the greatest", r, e, new(big.Rat).SetInt(top()))
	r, e = rational.Mul(wholeOf(two(32768)), wholeOf(two(32768)))
	wantErr(t, "Mul above the greatest", r, e, api.ErrBig)
	r, e = rational.Div(number(new(big.Rat).Inv(value(low))), high)
	wantValue(t, "Div down to the greatest Den", r, e, new(big.Rat).SetFrac(big.NewInt(1), top()))
	r, e = rational.Div(over(big.NewInt(1), two(32768)), wholeOf(two(32768)))
	wantErr(t, "Div below it", r, e, api.ErrBig)
	r, e = rational.Add(over(big.NewInt(1), less(two(32768), 1)), over(big.NewInt(1), new(big.Int).Add(two(32768), big.NewInt(1))))
	wantValue(t, "Add with the greatest Den", r, e, new(big.Rat).SetFrac(two(32769), top()))
	r, e = rational.Add(over(big.NewInt(1), two(32768)), over(big.NewInt(1), new(big.Int).Add(two(32768), big.NewInt(1))))
	wantErr(t, "Add with a greater Den", r, e, api.ErrBig)
}

// P2.4: what is met on the way is too large, the result in lowest terms is not.
func TestLargeOnTheWay(t *testing.T) {
	t.Parallel()
	r, e := rational.Add(over(top(), big.NewInt(2)), over(top(), big.NewInt(2)))
	wantValue(t, "two halves", r, e, new(big.Rat).SetInt(top()))
	d := dice(4)
	for _, size := range []int{600, 1100, 1500, 2046} {
		a := d.rat(size, size)
		for _, s := range []string{"3/7", "-5", "0"} {
			// b is what a lacks to a small sum or product.
			b := new(big.Rat).Sub(value(num(s)), value(a))
			r, e := rational.Add(a, number(b))
			wantText(t, "Add to a small sum", r, e, s)
			r, e = rational.Sub(a, number(b.Neg(b)))
			wantText(t, "Sub to a small difference", r, e, s)
		}
		b := new(big.Rat).Quo(value(num("2/3")), value(a))
		r, e := rational.Mul(a, number(b))
		wantText(t, "Mul to a small product", r, e, "2/3")
		r, e = rational.Div(a, number(b.Inv(b)))
		wantText(t, "Div to a small quotient", r, e, "2/3")
	}
}

// P2.4
func TestSignsAndInverse(t *testing.T) {
	for _, l := range [][]api.Rat{small(), medium(), large()} {
		for _, a := range l {
			r, e := rational.Neg(a)
			wantValue(t, "Neg", r, e, new(big.Rat).Neg(value(a)))
			r, e = rational.Abs(a)
			wantValue(t, "Abs", r, e, new(big.Rat).Abs(value(a)))
			r, e = rational.Inv(a)
			if len(a.Num) == 0 {
				wantErr(t, "Inv of 0", r, e, api.ErrZero)
			} else {
				wantValue(t, "Inv", r, e, new(big.Rat).Inv(value(a)))
			}
		}
	}
}

// power is a number to a power, as another library reckons it.
func power(r api.Rat, n int) *big.Rat {
	v := value(r)
	if n < 0 {
		v.Inv(v)
		n = -n
	}
	k := big.NewInt(int64(n))
	return v.SetFrac(new(big.Int).Exp(v.Num(), k, nil), new(big.Int).Exp(v.Denom(), k, nil))
}

// P2.4
func TestPow(t *testing.T) {
	for _, r := range small() {
		for _, n := range []int{0, 1, 2, 3, 5, 8, 100, 1023, 1024, -1, -2, -3, -1023, -1024} {
			z, e := rational.Pow(r, n)
			if len(r.Num) == 0 && n < 0 {
				wantErr(t, "Pow of 0 below 0", z, e, api.ErrZero)
			} else {
				wantValue(t, "Pow", z, e, power(r, n))
			}
		}
	}
	for _, r := range medium()[1:] {
		for _, n := range []int{0, 1, -1, 2, 7, -8, 60} {
			z, e := rational.Pow(r, n)
			wantValue(t, "Pow", z, e, power(r, n))
		}
	}
	for _, s := range []string{"0", "1", "-1/2", "5"} {
		for _, n := range []int{1025, -1025, math.MaxInt, math.MinInt, math.MinInt + 1} {
			z, e := rational.Pow(num(s), n)
			wantErr(t, "Pow out of range", z, e, api.ErrArg)
		}
	}
	z, e := rational.Pow(wholeOf(less(two(64), 1)), 1024)
	wantValue(t, "Pow just below the border", z, e, power(wholeOf(less(two(64), 1)), 1024))
	for _, n := range []int{1024, -1024} {
		z, e = rational.Pow(wholeOf(two(64)), n)
		wantErr(t, "Pow just above the border", z, e, api.ErrBig)
		z, e = rational.Pow(over(big.NewInt(-1), two(64)), n)
		wantErr(t, "Pow of an inverse just above it", z, e, api.ErrBig)
	}
}

// P2.5
func TestSum(t *testing.T) {
	r, e := rational.Sum()
	wantText(t, "Sum of none", r, e, "0")
	r, e = rational.Sum(num("-7/3"))
	wantText(t, "Sum of one", r, e, "-7/3")
	r, e = rational.Sum(nums("1/2", "1/3", "1/6")...)
	wantText(t, "Sum", r, e, "1")
	want := new(big.Rat)
	for _, a := range medium() {
		want.Add(want, value(a))
	}
	r, e = rational.Sum(medium()...)
	wantValue(t, "Sum of many", r, e, want)
	big1 := wholeOf(top())
	r, e = rational.Sum(big1, num("1"), num("-1"))
	wantErr(t, "Sum too large on the way", r, e, api.ErrBig)
	r, e = rational.Sum(num("1"), num("-1"), big1)
	wantValue(t, "Sum in another order", r, e, value(big1))
}

// P2.5
func TestProduct(t *testing.T) {
	r, e := rational.Product()
	wantText(t, "Product of none", r, e, "1")
	r, e = rational.Product(num("-7/3"))
	wantText(t, "Product of one", r, e, "-7/3")
	r, e = rational.Product(nums("1/2", "-4/3", "6/5")...)
	wantText(t, "Product", r, e, "-4/5")
	half, inverse := wholeOf(two(40000)), over(big.NewInt(1), two(40000))
	r, e = rational.Product(half, half, num("0"))
	wantErr(t, "Product too large on the way", r, e, api.ErrBig)
	r, e = rational.Product(half, half, inverse)
	wantErr(t, "Product too large on the way, back again", r, e, api.ErrBig)
	r, e = rational.Product(inverse, inverse, half)
	wantErr(t, "Product too small on the way", r, e, api.ErrBig)
	r, e = rational.Product(num("0"), half, half)
	wantText(t, "Product from 0 on", r, e, "0")
	r, e = rational.Product(half, inverse, half)
	wantValue(t, "Product in another order", r, e, value(half))
}

// P2.5
func TestDot(t *testing.T) {
	r, e := rational.Dot(nil, []api.Rat{})
	wantText(t, "Dot of none", r, e, "0")
	r, e = rational.Dot(nums("1/2", "3", "-1/6"), nums("4", "5", "3"))
	wantText(t, "Dot", r, e, "33/2")
	l := medium()
	want := new(big.Rat)
	back := make([]api.Rat, len(l))
	for i := range l {
		back[i] = l[len(l)-1-i]
		want.Add(want, new(big.Rat).Mul(value(l[i]), value(back[i])))
	}
	r, e = rational.Dot(l, back)
	wantValue(t, "Dot of many", r, e, want)
	half, most := wholeOf(two(40000)), wholeOf(top())
	r, e = rational.Dot([]api.Rat{half}, []api.Rat{half})
	wantErr(t, "Dot with a product that is too large", r, e, api.ErrBig)
	r, e = rational.Dot([]api.Rat{half, half}, []api.Rat{half, negative(half)})
	wantErr(t, "Dot with products that are too large", r, e, api.ErrBig)
	r, e = rational.Dot([]api.Rat{most, num("1"), num("1")}, nums("1", "1", "-1"))
	wantErr(t, "Dot too large on the way", r, e, api.ErrBig)
	r, e = rational.Dot([]api.Rat{num("1"), num("1"), most}, nums("1", "-1", "1"))
	wantValue(t, "Dot in another order", r, e, value(most))
	for _, c := range [][2][]api.Rat{{nums("1"), nil}, {nil, nums("1")}, {nums("1", "2"), nums("1")}, {{half, half}, {half}}} {
		r, e = rational.Dot(c[0], c[1])
		wantErr(t, "Dot of unlike lengths", r, e, api.ErrArg)
	}
}
