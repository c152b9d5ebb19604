package rational

import (
	"slope/api"
	"slope/natural"
)

// Between gives the simplest number from a to b.
func Between(a api.Rat, b api.Rat) (api.Rat, api.Errno) {
	if !May(a) || !May(b) {
		return api.Rat{}, api.ErrRat
	}
	if compare(a, b) > 0 {
		return api.Rat{}, api.ErrSpan
	}
	switch {
	case sign(a) > 0:
		return simplest(false, span{ratioOf(a), ratioOf(b)}), api.OK
	case sign(b) < 0:
		return simplest(true, span{ratioOf(b), ratioOf(a)}), api.OK
	}
	return whole(false, nil), api.OK
}

// ratio is a number from 0 up, in whatever terms; one over 0 is infinity.
type ratio struct{ num, den api.Nat }

// ratioOf is a number without its sign.
func ratioOf(r api.Rat) ratio { return ratio{r.Num, r.Den} }

// bits is the more of num's and den's.
func (r ratio) bits() int { return max(natural.Bits(r.num), natural.Bits(r.den)) }

// floor is the whole part, and whether there is more.
func (r ratio) floor() (api.Nat, bool) {
	q, left, _ := natural.DivMod(r.num, r.den)
	return q, len(left) > 0
}

// span is the numbers from low to high; low is not infinity.
type span struct{ low, high ratio }

// bits is the more of low's and high's.
func (s span) bits() int { return max(s.low.bits(), s.high.bits()) }

// simplest is the simplest number of a span of numbers above 0. What all its
// numbers' continued fractions begin with that of the simplest one begins with
// too; behind that stands the least whole number that is left.
func simplest(neg bool, s span) api.Rat {
	t := begin(s)
	q, more := t.undo(s).low.floor()
	if more {
		q = increment(q)
	}
	num := sure(natural.Add(sure(natural.Mul(t.a, q)), t.b))
	den := sure(natural.Add(sure(natural.Mul(t.c, q)), t.d))
	return signed(neg, num, den)
}

// terms is what terms of a continued fraction make of what stands behind them: x becomes (a x + b) / (c x + d). An odd number of them turns the order round.
type terms struct {
	a, b, c, d api.Nat
	odd        bool
}

// noTerms leaves everything as it is.
func noTerms() terms { return terms{a: one(), d: one()} }

// none tells whether there are no terms.
func (t terms) none() bool { return len(t.c) == 0 }

// crossed is the sum of two products, which is not too large.
func crossed(a, b, c, d api.Nat) api.Nat {
	return sure(natural.Add(sure(natural.Mul(a, b)), sure(natural.Mul(c, d))))
}

// then is these terms with others behind them.
func (t terms) then(u terms) terms {
	return terms{
		a:   crossed(t.a, u.a, t.b, u.c),
		b:   crossed(t.a, u.b, t.b, u.d),
		c:   crossed(t.c, u.a, t.d, u.c),
		d:   crossed(t.c, u.b, t.d, u.d),
		odd: t.odd != u.odd,
	}
}

// undoOne is what stands behind the terms of a number that begins with them.
func (t terms) undoOne(r ratio) ratio {
	return ratio{
		num: sure(product(t.d, r.num).apart(product(t.b, r.den)).narrow()),
		den: sure(product(t.a, r.den).apart(product(t.c, r.num)).narrow()),
	}
}

// undo is what stands behind the terms of a span's numbers.
func (t terms) undo(s span) span {
	low, high := t.undoOne(s.low), t.undoOne(s.high)
	if t.odd {
		return span{high, low}
	}
	return span{low, high}
}

// wordBits is how many bits there may be for words to do; one more is added by outer.
const wordBits = 62

// begin is the terms that the continued fractions of all numbers of a span
// begin with. The upper halves of the bits tell the first of them: what all
// numbers of a greater span begin with these do too.
func begin(s span) terms {
	t := noTerms()
	for s.bits() > wordBits {
		u := begin(s.outer(s.bits() / 2))
		if u.none() {
			u = firstTerm(s)
		}
		if u.none() {
			return t
		}
		s, t = u.undo(s), t.then(u)
	}
	return t.then(beginInWords(s))
}

// outer is a span around this one, of numbers of hardly more than so many bits.
func (s span) outer(keep int) span {
	if drop := s.low.bits() - keep; drop > 0 {
		s.low = ratio{sure(natural.Shr(s.low.num, drop)), increment(sure(natural.Shr(s.low.den, drop)))}
	}
	if drop := s.high.bits() - keep; drop > 0 {
		s.high = ratio{increment(sure(natural.Shr(s.high.num, drop))), sure(natural.Shr(s.high.den, drop))}
	}
	return s
}

// firstTerm is the one term that all numbers begin with, if they do, and if low goes on behind it.
func firstTerm(s span) terms {
	if len(s.high.den) == 0 {
		return noTerms()
	}
	q, more := s.low.floor()
	if top, _ := s.high.floor(); !more || natural.Cmp(q, top) != 0 {
		return noTerms()
	}
	return terms{a: q, b: one(), c: one(), odd: true}
}

// beginInWords is begin for numbers of at most a word's bits.
func beginInWords(s span) terms {
	word := func(n api.Nat) uint64 { v, _ := natural.Uint(n); return v }
	n, m := word(s.low.num), word(s.low.den)
	v, w := word(s.high.num), word(s.high.den)
	var a, b, c, d uint64 = 1, 0, 0, 1
	odd := false
	for w != 0 && n%m != 0 && n/m == v/w {
		q := n / m
		a, b, c, d = a*q+b, a, c*q+d, c
		n, m, v, w = w, v-q*w, m, n-q*m
		odd = !odd
	}
	return terms{natural.From(a), natural.From(b), natural.From(c), natural.From(d), odd}
}
