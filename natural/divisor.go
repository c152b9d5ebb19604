package natural

import "math/bits"

// divisor is the greatest common divisor, found by Lehmer's way: the top bits of both tell many of Euclid's steps at once.
func divisor(a, b []uint32) []uint32 {
	if compare(a, b) < 0 {
		a, b = b, a
	}
	if len(a) <= 2 {
		return fromWord(wordDivisor(word(a), word(b)))
	}
	a, b = clone(a), clone(b)
	for len(b) > 2 {
		if s := foresee(a, b); s.v0 != 0 {
			a, b = s.walk(a, b)
		} else {
			_, r := divide(a, b)
			a, b = b, r
		}
	}
	if len(b) == 0 {
		return a
	}
	_, r := divide(a, b)
	return fromWord(wordDivisor(word(b), word(r)))
}

// wordDivisor is the greatest common divisor of two words, by halves and differences.
func wordDivisor(a, b uint64) uint64 {
	if a == 0 || b == 0 {
		return a | b
	}
	twos := bits.TrailingZeros64(a | b)
	a >>= bits.TrailingZeros64(a)
	for b != 0 {
		b >>= bits.TrailingZeros64(b)
		if a > b {
			a, b = b, a
		}
		b -= a
	}
	return a << twos
}

// steps is what some of Euclid's steps come to: a becomes u0 * a - v0 * b and b becomes v1 * b - u1 * a, both negated if odd. None is above 32 bits.
type steps struct {
	u0, u1, v0, v1 uint64
	odd            bool
}

// topWord is the 64 bits of a whose highest is bit 31 - s of limb n - 1.
func topWord(a []uint32, n, s int) uint64 {
	head := uint64(limbAt(a, n-1))<<limbBits | uint64(limbAt(a, n-2))
	return head<<s | uint64(limbAt(a, n-3)>>(limbBits-s))
}

// foresee finds steps that are those of a and b whatever their lower bits are; v0 is 0 if there is none. a has three limbs or more and is not below b.
func foresee(a, b []uint32) steps {
	n := len(a)
	shift := bits.LeadingZeros32(a[n-1])
	x, y := topWord(a, n, shift), topWord(b, n, shift)
	s := steps{u1: 1, odd: true}
	var u2, v2 uint64 = 0, 1
	// Collins' condition; while it holds v2 is below the root of 2^64.
	for y >= v2 && x-y >= s.v1+v2 {
		q := x / y
		x, y = y, x-q*y
		s.u0, s.u1, u2 = s.u1, u2, s.u1+q*u2
		s.v0, s.v1, v2 = s.v1, v2, s.v1+q*v2
		s.odd = !s.odd
	}
	return s
}

// walk goes these steps, at least one, in place, over b's limbs alone: what a and b become is not above b.
func (s steps) walk(a, b []uint32) ([]uint32, []uint32) {
	n := len(b)
	x, y := a[:n:n], b
	if s.odd {
		// Negated, each difference is the same one of b and a.
		x, y = y, x
		s.u0, s.v0 = s.v0, s.u0
		s.u1, s.v1 = s.v1, s.u1
	}
	var first, second lane
	for i := range n {
		p, q := uint64(x[i]), uint64(y[i])
		x[i] = first.next(s.u0*p, s.v0*q)
		y[i] = second.next(s.v1*q, s.u1*p)
	}
	return trim(x), trim(y)
}

// lane goes over the limbs of a difference of two products: what each of them carries, and what is borrowed.
type lane struct {
	plus, minus uint64
	borrow      uint32
}

// next is the limb that the limbs' products plus and minus give.
func (l *lane) next(plus, minus uint64) uint32 {
	plus += l.plus
	minus += l.minus
	l.plus, l.minus = plus>>limbBits, minus>>limbBits
	z, borrow := bits.Sub32(uint32(plus), uint32(minus), l.borrow)
	l.borrow = borrow
	return z
}
