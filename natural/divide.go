package natural

import "math/bits"

// divide is the quotient and the remainder; b is not 0.
func divide(a, b []uint32) ([]uint32, []uint32) {
	if compare(a, b) < 0 {
		return nil, clone(a)
	}
	if len(b) == 1 {
		q := clone(a)
		r := divideLimb(q, b[0])
		return trim(q), trim([]uint32{r})
	}
	return divideLong(a, b)
}

// divideLimb divides z by a limb in place and gives the remainder.
func divideLimb(z []uint32, d uint32) uint32 {
	var r uint32
	for i := len(z) - 1; i >= 0; i-- {
		z[i], r = bits.Div32(r, z[i], d)
	}
	return r
}

// divideLong divides by two limbs or more, a limb of the quotient at a time; a is not below b.
func divideLong(a, b []uint32) ([]uint32, []uint32) {
	// With the divisor's top bit set a guess by the top limbs is at most 2 too great.
	s := bits.LeadingZeros32(b[len(b)-1])
	v := shiftLeft(b, s)
	u := make([]uint32, len(a)+1)
	copy(u, shiftLeft(a, s))
	q := make([]uint32, len(a)-len(v)+1)
	for j := len(q) - 1; j >= 0; j-- {
		end := j + len(v) + 1
		q[j] = takeQuotient(u[j:end:end], v)
	}
	return trim(q), shiftRight(u[:len(v)], s)
}

// takeQuotient divides u, one limb longer than v, by v: u becomes the remainder; the quotient is one limb.
func takeQuotient(u, v []uint32) uint32 {
	n := len(v)
	g := guess(u, v)
	carry := subTimes(u[:n:n], v, g)
	short := u[n] < carry
	u[n] -= carry
	if short {
		g--
		u[n] += addTo(u[:n:n], v)
	}
	return g
}

// guess is the quotient of u by v, or one more, by the top limbs of both.
func guess(u, v []uint32) uint32 {
	n := len(v)
	top, next := uint64(v[n-1]), uint64(v[n-2])
	head := uint64(u[n])<<limbBits | uint64(u[n-1])
	g, r := head/top, head%top
	for g>>limbBits != 0 || g*next > r<<limbBits|uint64(u[n-2]) {
		g--
		r += top
		if r>>limbBits != 0 {
			break
		}
	}
	return uint32(g)
}

// subTimes takes v times g from u, as long as v, in place, and gives what is still to be taken above.
func subTimes(u, v []uint32, g uint32) uint32 {
	var carry uint64
	for i := range len(v) {
		p := uint64(v[i])*uint64(g) + carry
		carry = p >> limbBits
		if u[i] < uint32(p) {
			carry++
		}
		u[i] -= uint32(p)
	}
	return uint32(carry)
}
