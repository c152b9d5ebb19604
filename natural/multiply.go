package natural

import "math/bits"

// border is the length of the shorter factor from which on halves are worth their additions.
const border = 48

// multiply is the product.
func multiply(a, b []uint32) []uint32 {
	z := make([]uint32, len(a)+len(b))
	multiplyInto(z, a, b)
	return trim(z)
}

// multiplyInto puts the product into z, which is all 0 and as long as both factors together.
func multiplyInto(z, a, b []uint32) {
	if len(a) < len(b) {
		a, b = b, a
	}
	switch {
	case len(b) < border:
		multiplyRows(z, a, b)
	case len(b) <= (len(a)+1)/2:
		multiplyPieces(z, a, b)
	default:
		multiplyHalves(z, a, b)
	}
}

// multiplyRows adds up a's products with each limb of b.
func multiplyRows(z, a, b []uint32) {
	for i := range len(b) {
		row := z[i : i+len(a)+1 : i+len(a)+1]
		var carry uint64
		for j := range len(a) {
			// The greatest limbs and carries come to 2^64 - 1 just: no wrap.
			v := uint64(a[j])*uint64(b[i]) + uint64(row[j]) + carry
			row[j] = uint32(v)
			carry = v >> limbBits
		}
		row[len(a)] = uint32(carry)
	}
}

// multiplyPieces cuts the much longer a into pieces of b's length: b has no upper half beside a's.
func multiplyPieces(z, a, b []uint32) {
	for from := 0; from < len(a); from += len(b) {
		to := min(from+len(b), len(a))
		addTo(z[from:], multiply(a[from:to:to], b))
	}
}

// multiplyHalves is Karatsuba's way: the halves' products, and that of the halves' sums in the place of the two crossed ones.
func multiplyHalves(z, a, b []uint32) {
	h := (len(a) + 1) / 2
	a0, a1 := a[:h:h], a[h:len(a):len(a)]
	b0, b1 := b[:h:h], b[h:len(b):len(b)]
	low, high := z[:2*h:2*h], z[2*h:len(z):len(z)]
	multiplyInto(low, a0, b0)
	multiplyInto(high, a1, b1)

	n := h + 1 // limbs of a sum of two halves
	room := make([]uint32, 4*n)
	as, bs, cross := room[:n:n], room[n:2*n:2*n], room[2*n:4*n:4*n]
	copy(as, a0)
	addTo(as, a1)
	copy(bs, b0)
	addTo(bs, b1)
	multiplyInto(cross, as, bs)
	subFrom(cross, low)
	subFrom(cross, high)
	// Without its zeros the crossed part is not longer than what it is added to.
	addTo(z[h:], trim(cross))
}

// power is a times itself, k times over.
func power(a []uint32, k int) []uint32 {
	z := []uint32{1}
	for i := bits.Len(uint(k)) - 1; i >= 0; i-- {
		z = multiply(z, z)
		if k>>i&1 == 1 {
			z = multiply(z, a)
		}
	}
	return z
}
