package rational

import (
	"slope/api"
	"slope/natural"
)

// pair calls f with two numbers that may be.
func pair(a, b api.Rat, f func(a, b api.Rat) (api.Rat, api.Errno)) (api.Rat, api.Errno) {
	if !May(a) || !May(b) {
		return api.Rat{}, api.ErrRat
	}
	return f(a, b)
}

// Add adds.
func Add(a api.Rat, b api.Rat) (api.Rat, api.Errno) { return pair(a, b, add) }

// Sub takes b from a.
func Sub(a api.Rat, b api.Rat) (api.Rat, api.Errno) { return pair(a, b, subtract) }

// Mul multiplies.
func Mul(a api.Rat, b api.Rat) (api.Rat, api.Errno) { return pair(a, b, multiply) }

// Div divides a by b.
func Div(a api.Rat, b api.Rat) (api.Rat, api.Errno) { return pair(a, b, divide) }

func subtract(a, b api.Rat) (api.Rat, api.Errno) {
	b.Neg = !b.Neg // of 0 too: it is not looked at there
	return add(a, b)
}

func divide(a, b api.Rat) (api.Rat, api.Errno) {
	if isZero(b) {
		return api.Rat{}, api.ErrZero
	}
	b.Num, b.Den = b.Den, b.Num
	return multiply(a, b)
}

// add is the sum. Over the least Den that both go into, the sum of the Nums has
// no divisor in common with what only one of the Dens has: so just the Dens'
// greatest common divisor is left to be looked at.
func add(a, b api.Rat) (api.Rat, api.Errno) {
	d := divisor(a.Den, b.Den)
	onlyA, onlyB := quotient(a.Den, d), quotient(b.Den, d)
	sum, neg := combine(a.Neg, product(a.Num, onlyB), b.Neg, product(b.Num, onlyA))
	sum, d = cancel(sum, d)
	num, e := sum.narrow()
	den, f := natural.Product(onlyA, onlyB, d)
	return answer(neg, num, den, max(e, f))
}

// answer is a number of these very lists, unless working them out came to an error.
func answer(neg bool, num, den api.Nat, e api.Errno) (api.Rat, api.Errno) {
	if e != api.OK {
		return api.Rat{}, e
	}
	return signed(neg, num, den), api.OK
}

// combine adds two wide numbers with their signs: the sum's size, and whether it is below 0.
func combine(negX bool, x wide, negY bool, y wide) (wide, bool) {
	if negX == negY {
		return x.plus(y), negX
	}
	if compareWide(x, y) < 0 {
		return y.minus(x), negY
	}
	return x.minus(y), negX
}

// multiply is the product: what a Num and the other's Den have in common is all that can be left away.
func multiply(a, b api.Rat) (api.Rat, api.Errno) {
	c, d := divisor(a.Num, b.Den), divisor(b.Num, a.Den)
	num, e := natural.Mul(quotient(a.Num, c), quotient(b.Num, d))
	den, f := natural.Mul(quotient(a.Den, d), quotient(b.Den, c))
	return answer(a.Neg != b.Neg, num, den, max(e, f))
}

// Pow gives a power.
func Pow(r api.Rat, n int) (api.Rat, api.Errno) {
	if !May(r) {
		return api.Rat{}, api.ErrRat
	}
	if n < -api.MaxPower || n > api.MaxPower {
		return api.Rat{}, api.ErrArg
	}
	if n < 0 {
		if isZero(r) {
			return api.Rat{}, api.ErrZero
		}
		n = -n
		r.Num, r.Den = r.Den, r.Num
	}
	num, e := natural.Pow(r.Num, n)
	den, f := natural.Pow(r.Den, n)
	return answer(r.Neg && n%2 == 1, num, den, max(e, f))
}

// fold goes over the list from the left on, begun with z, until something is refused.
func fold(z api.Rat, l []api.Rat, step func(z, r api.Rat) (api.Rat, api.Errno)) (api.Rat, api.Errno) {
	if !mayAll(l) {
		return api.Rat{}, api.ErrRat
	}
	for i := range l {
		var e api.Errno
		if z, e = step(z, l[i]); e != api.OK {
			return api.Rat{}, e
		}
	}
	return z, api.OK
}

// Sum adds all up, from the left on.
func Sum(l ...api.Rat) (api.Rat, api.Errno) { return fold(whole(false, nil), l, add) }

// Product multiplies all, from the left on.
func Product(l ...api.Rat) (api.Rat, api.Errno) { return fold(whole(false, one()), l, multiply) }

// Dot adds up the products of two lists.
func Dot(a []api.Rat, b []api.Rat) (api.Rat, api.Errno) {
	if !mayAll(a) || !mayAll(b) {
		return api.Rat{}, api.ErrRat
	}
	if len(a) != len(b) {
		return api.Rat{}, api.ErrArg
	}
	z := whole(false, nil)
	for i := range a {
		p, e := multiply(a[i], b[i])
		if e == api.OK {
			z, e = add(z, p)
		}
		if e != api.OK {
			return api.Rat{}, e
		}
	}
	return z, api.OK
}
