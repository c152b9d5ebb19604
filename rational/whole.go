package rational

import (
	"slope/api"
	"slope/natural"
)

// floor is the greatest whole number not above r, and what is left, over r's Den.
func floor(r api.Rat) (api.Rat, api.Nat) {
	q, left, _ := natural.DivMod(r.Num, r.Den)
	if r.Neg && len(left) > 0 {
		q, left = increment(q), sure(natural.Sub(r.Den, left))
	}
	return whole(r.Neg, q), left
}

// Floor gives the greatest whole number not above r.
func Floor(r api.Rat) (api.Rat, api.Errno) {
	if !May(r) {
		return api.Rat{}, api.ErrRat
	}
	q, _ := floor(r)
	return q, api.OK
}

// Ceil gives the least whole number not below r.
func Ceil(r api.Rat) (api.Rat, api.Errno) {
	if !May(r) {
		return api.Rat{}, api.ErrRat
	}
	r.Neg = !r.Neg
	q, _ := floor(r)
	return whole(!q.Neg, q.Num), api.OK
}

// Round gives the nearest whole number.
func Round(r api.Rat) (api.Rat, api.Errno) {
	if !May(r) {
		return api.Rat{}, api.ErrRat
	}
	q, left, _ := natural.DivMod(r.Num, r.Den)
	if roundsUp(left, r.Den, natural.Bit(q, 0) == 1) {
		q = increment(q)
	}
	return whole(r.Neg, q), api.OK
}

// increment is n and 1.
func increment(n api.Nat) api.Nat { return sure(natural.Add(n, one())) }

// roundsUp tells whether left over den, below 1, goes up to 1: from a half on, at the half just from an odd number.
func roundsUp(left, den api.Nat, odd bool) bool {
	c := natural.Cmp(left, sure(natural.Sub(den, left)))
	return c > 0 || c == 0 && odd
}

// Divide gives the floor of a / b, and what is left.
func Divide(a api.Rat, b api.Rat) (api.Rat, api.Rat, api.Errno) {
	if !May(a) || !May(b) {
		return api.Rat{}, api.Rat{}, api.ErrRat
	}
	if isZero(b) {
		return api.Rat{}, api.Rat{}, api.ErrZero
	}
	d := divisor(a.Den, b.Den)
	onlyA, onlyB := quotient(a.Den, d), quotient(b.Den, d)
	q, left := divideTwice(product(a.Num, onlyB), onlyA, b.Num)
	if a.Neg != b.Neg && len(left) > 0 {
		q = q.plus(spread(one()))
		left = product(onlyA, b.Num).minus(left)
	}
	// What is left stands over onlyA times b's Den, and has nothing in common with onlyA.
	left, rest := cancel(left, b.Den)
	times, e := q.narrow()
	num, f := left.narrow()
	den, g := natural.Mul(onlyA, rest)
	if max(e, f, g) != api.OK {
		return api.Rat{}, api.Rat{}, api.ErrBig
	}
	return whole(a.Neg != b.Neg, times), signed(b.Neg, num, den), api.OK
}

// divideTwice is the quotient by the product of c and d, which may be too large for a natural, and what is left.
func divideTwice(w wide, c, d api.Nat) (wide, wide) {
	q, leftC := w.by(c)
	q, leftD := q.by(d)
	return q, product(leftD, c).plus(spread(leftC))
}
