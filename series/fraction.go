package series

import (
	"iter"

	"slope/api"
	"slope/natural"
)

// fraction is a series as a quotient of two polynomials, made by the operations
// without lowering: chapter 5's end bounds the bits of each by a node's weight.
// Coefficient 0 of den is not 0. With coefficients in lowest terms each product of
// two series would lower hundreds of numbers, up to degree + 1 times as long.
type fraction struct {
	num, den poly
}

// fractionOf is a series of numbers, over the least Den that all of them have in common.
func fractionOf(l []api.Rat) fraction {
	common := one()
	for _, c := range l {
		common.size = sure(natural.Lcm(common.size, c.Den))
	}
	num := make(poly, len(l))
	for k, c := range l {
		num[k] = whole{c.Neg, c.Num}.times(common.by(c.Den))
	}
	return fraction{num, flat(common, len(l))}
}

// ratio is a number over another one, which is not 0, as a series of so many coefficients.
func ratio(num, den whole, size int) fraction { return fraction{flat(num, size), flat(den, size)} }

// constant is a number as a series of so many coefficients.
func constant(c api.Rat, size int) fraction {
	return ratio(whole{c.Neg, c.Num}, whole{size: c.Den}, size)
}

// beginsWithZero tells whether coefficient 0 is 0.
func (x fraction) beginsWithZero() bool { return x.num[0].isZero() }

func (x fraction) negative() fraction { return fraction{x.num.negative(), x.den} }

func (x fraction) plus(y fraction) fraction {
	return fraction{x.num.times(y.den).plus(y.num.times(x.den)), x.den.times(y.den)}
}

func (x fraction) times(y fraction) fraction {
	return fraction{x.num.times(y.num), x.den.times(y.den)}
}

// inverse is 1 over x, which doesn't begin with 0.
func (x fraction) inverse() fraction { return fraction{x.den, x.num} }

func (x fraction) over(y fraction) fraction { return x.times(y.inverse()) }

// power is x^n; below 0 x doesn't begin with 0.
func (x fraction) power(n int) fraction {
	if n < 0 {
		return x.inverse().power(-n)
	}
	return fraction{x.num.power(n), x.den.power(n)}
}

// put is a(x), for a polynomial a. Its common Den comes last: so the numbers on
// the way stay below what the chapter reckons for the whole.
func put(a []api.Rat, x fraction) fraction {
	outer, size := fractionOf(a), len(x.num)
	top := len(a) - 1
	z := ratio(outer.num[top], one(), size)
	for i := top - 1; i >= 0; i-- {
		z = z.times(x).plus(ratio(outer.num[i], one(), size))
	}
	return z.times(ratio(one(), outer.den[0], size))
}

// series is all coefficients, in new memory.
func (x fraction) series() []api.Rat {
	z := make([]api.Rat, 0, len(x.num))
	for c := range x.coefficients() {
		z = append(z, c)
	}
	return z
}

// coefficients are those of the series, one behind the other. With what all
// coefficients of den have in common left away, which is q, coefficient k is a
// whole number over common * q_0^(k+1): so each is lowered once, when it is told.
func (x fraction) coefficients() iter.Seq[api.Rat] {
	return func(yield func(c api.Rat) bool) {
		common, q := x.den.primitive()
		den := whole{size: common}.times(q[0]) // common * q_0^(k+1)
		power := one()                         // q_0^k
		var told, before poly                  // the whole numbers so far; q_i * q_0^(i-1), from i = 1 on
		for k, p := range x.num {
			if k > 0 {
				before = append(before, q[k].times(power))
				power, den = power.times(q[0]), den.times(q[0])
			}
			told = append(told, p.times(power).plus(crossed(before, told).negative()))
			if !yield(told[k].over(den)) {
				return
			}
		}
	}
}
