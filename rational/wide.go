package rational

import (
	"slope/api"
	"slope/natural"
)

// wide is a natural of any length: digits of half a natural's bits, the least
// first, none that is 0 on top. Layer 1 answers nothing above MaxLimbs limbs,
// but what stands ahead of lowering may be twice that long; two digits' product
// is a natural yet. A digit may be a piece of a list that was handed in, so it
// is never written to and never answered.
type wide []api.Nat

const (
	maxBits    = 32 * api.MaxLimbs
	digitLimbs = api.MaxLimbs / 2
	digitBits  = maxBits / 2
)

// spread is a natural as a wide number.
func spread(n api.Nat) wide {
	if len(n) <= digitLimbs {
		return wide{n}.trim()
	}
	low := n[:digitLimbs]
	for len(low) > 0 && low[len(low)-1] == 0 {
		low = low[:len(low)-1]
	}
	return wide{low, n[digitLimbs:]}
}

// trim leaves away the digits on top that are 0.
func (w wide) trim() wide {
	for len(w) > 0 && len(w[len(w)-1]) == 0 {
		w = w[:len(w)-1]
	}
	return w
}

// digit is digit i, 0 above the top.
func (w wide) digit(i int) api.Nat {
	if i >= len(w) {
		return nil
	}
	return w[i]
}

// narrow is the wide number as a natural, in new memory; ErrBig, if it is too large for one.
func (w wide) narrow() (api.Nat, api.Errno) {
	if len(w) > 2 {
		return nil, api.ErrBig
	}
	high := sure(natural.Shl(w.digit(1), digitBits))
	return natural.Add(high, w.digit(0))
}

// raise puts n digits that are 0 below the others.
func (w wide) raise(n int) wide {
	if n == 0 {
		return w
	}
	return append(make(wide, n, n+len(w)), w...).trim()
}

// product is that of two naturals.
func product(a, b api.Nat) wide { return spread(a).times(spread(b)) }

func (w wide) times(v wide) wide {
	var z wide
	for i := range w {
		for j := range v {
			p := spread(sure(natural.Mul(w[i], v[j])))
			z = z.plus(p.raise(i + j))
		}
	}
	return z
}

func (w wide) plus(v wide) wide {
	if len(w) == 0 {
		return v
	}
	z := make(wide, 0, max(len(w), len(v))+1)
	var carry api.Nat
	for i := range max(len(w), len(v)) {
		s := spread(sure(natural.Sum(w.digit(i), v.digit(i), carry)))
		z = append(z, s.digit(0))
		carry = s.digit(1)
	}
	return append(z, carry).trim()
}

// minus takes away v, which is not above w.
func (w wide) minus(v wide) wide {
	z := make(wide, len(w))
	var borrow api.Nat
	for i := range w {
		from, take := w[i], sure(natural.Add(v.digit(i), borrow))
		borrow = nil
		if natural.Cmp(from, take) < 0 {
			borrow = one()
			from = sure(natural.Add(from, sure(natural.Shl(borrow, digitBits))))
		}
		z[i] = sure(natural.Sub(from, take))
	}
	return z.trim()
}

// apart is the greater less the lesser.
func (w wide) apart(v wide) wide {
	if compareWide(w, v) < 0 {
		return v.minus(w)
	}
	return w.minus(v)
}

func compareWide(w, v wide) int {
	for i := max(len(w), len(v)) - 1; i >= 0; i-- {
		if c := natural.Cmp(w.digit(i), v.digit(i)); c != 0 {
			return c
		}
	}
	return 0
}

// by is the quotient by a natural that is not 0, and what is left.
func (w wide) by(d api.Nat) (wide, api.Nat) {
	if n, e := w.narrow(); e == api.OK {
		q, r, _ := natural.DivMod(n, d)
		return spread(q), r
	}
	shift := 0
	if len(d) > digitLimbs {
		// With d's top bit set a guess by its upper digit is hardly too great.
		shift = maxBits - natural.Bits(d)
		w = w.times(spread(sure(natural.Shl(one(), shift))))
		d = sure(natural.Shl(d, shift))
	}
	q := make(wide, len(w))
	var r api.Nat
	for i := len(w) - 1; i >= 0; i-- {
		q[i], r = nextDigit(r, w[i], d)
	}
	return q.trim(), sure(natural.Shr(r, shift))
}

// nextDigit divides r, which is below d, with one more digit behind it by d: the quotient is one digit. If d has two, its top bit is set.
func nextDigit(r, next, d api.Nat) (api.Nat, api.Nat) {
	n := append(wide{next}, spread(r)...).trim()
	if len(d) <= digitLimbs {
		q, left, _ := natural.DivMod(sure(n.narrow()), d)
		return q, left
	}
	// At most 2 above the quotient.
	guess, _, _ := natural.DivMod(r, d[digitLimbs:])
	p := product(guess, d)
	for compareWide(p, n) > 0 {
		guess = sure(natural.Sub(guess, one()))
		p = p.minus(spread(d))
	}
	return guess, sure(n.minus(p).narrow())
}

// cancel divides a wide number and a natural that is not 0 by the greatest natural that divides both.
func cancel(w wide, n api.Nat) (wide, api.Nat) {
	if isOne(n) {
		return w, n
	}
	_, r := w.by(n)
	d := divisor(r, n)
	if isOne(d) {
		return w, n
	}
	q, _ := w.by(d)
	return q, quotient(n, d)
}
