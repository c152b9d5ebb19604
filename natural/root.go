package natural

import "math/bits"

// root is the greatest number whose power k is not above n; k is above 0.
func root(n []uint32, k int) []uint32 {
	if k == 1 || len(n) == 0 {
		return clone(n)
	}
	size := (bitLen(n) + k - 1) / k
	// Newton's steps gain little while k is great beside the root.
	lost := bits.Len(uint(k))
	if size < lost+3 {
		return rootByBits(n, k, size)
	}
	cut := (size - lost) / 2
	head := root(shiftRight(n, cut*k), k)
	return descend(n, k, shiftLeft(add(head, []uint32{1}), cut))
}

// rootByBits finds a root of that many bits, at most a limb's, from the top one down.
func rootByBits(n []uint32, k, size int) []uint32 {
	z := []uint32{0}
	for i := size - 1; i >= 0; i-- {
		z[0] |= 1 << i
		if compare(power(z, k), n) > 0 {
			z[0] &^= 1 << i
		}
	}
	return z
}

// descend takes Newton's whole steps from x, which is above the root: each is less than the one ahead until it would be below the root.
func descend(n []uint32, k int, x []uint32) []uint32 {
	for {
		q, _ := divide(n, power(x, k-1))
		y := add(multiply(x, []uint32{uint32(k - 1)}), q)
		divideLimb(y, uint32(k))
		y = trim(y)
		if compare(y, x) >= 0 {
			return x
		}
		x = y
	}
}
