package natural

import "math/bits"

// limbBits is how many bits a limb has.
const limbBits = 32

// trim leaves away the limbs on top that are 0, and the room behind them.
func trim(z []uint32) []uint32 {
	n := len(z)
	for n > 0 && z[n-1] == 0 {
		n--
	}
	if n == 0 {
		return nil
	}
	return z[:n:n]
}

// clone is a copy in new memory.
func clone(a []uint32) []uint32 {
	z := make([]uint32, len(a))
	copy(z, a)
	return z
}

// fromWord is the limbs of a word.
func fromWord(v uint64) []uint32 {
	return trim([]uint32{uint32(v), uint32(v >> limbBits)})
}

// word is the value of at most two limbs.
func word(a []uint32) uint64 {
	return uint64(limbAt(a, 1))<<limbBits | uint64(limbAt(a, 0))
}

// limbAt is limb i, 0 above the top.
func limbAt(a []uint32, i int) uint32 {
	if i >= len(a) {
		return 0
	}
	return a[i]
}

// bitLen tells how many binary digits there are.
func bitLen(a []uint32) int {
	if len(a) == 0 {
		return 0
	}
	return (len(a)-1)*limbBits + bits.Len32(a[len(a)-1])
}

// compare tells -1, 0 or 1; neither list has a 0 on top.
func compare(a, b []uint32) int {
	if len(a) != len(b) {
		if len(a) < len(b) {
			return -1
		}
		return 1
	}
	for i := len(a) - 1; i >= 0; i-- {
		if a[i] != b[i] {
			if a[i] < b[i] {
				return -1
			}
			return 1
		}
	}
	return 0
}

// addTo adds b to z in place and tells what is carried out of z, which is not shorter than b.
func addTo(z, b []uint32) uint32 {
	var carry uint32
	for i := range len(b) {
		z[i], carry = bits.Add32(z[i], b[i], carry)
	}
	for i := len(b); carry != 0 && i < len(z); i++ {
		z[i], carry = bits.Add32(z[i], 0, carry)
	}
	return carry
}

// subFrom takes b from z in place; z is not shorter than b, and not below it.
func subFrom(z, b []uint32) {
	var borrow uint32
	for i := range len(b) {
		z[i], borrow = bits.Sub32(z[i], b[i], borrow)
	}
	for i := len(b); borrow != 0 && i < len(z); i++ {
		z[i], borrow = bits.Sub32(z[i], 0, borrow)
	}
}

// add is the sum.
func add(a, b []uint32) []uint32 {
	if len(a) < len(b) {
		a, b = b, a
	}
	z := make([]uint32, len(a)+1)
	copy(z, a)
	addTo(z, b)
	return trim(z)
}

// addAll is the sum of all the lists.
func addAll[L ~[]uint32](l []L) []uint32 {
	longest := 0
	for i := range len(l) {
		longest = max(longest, len(l[i]))
	}
	// Two limbs more hold what 2^64 lists can carry over the longest.
	z := make([]uint32, longest+2)
	for i := range len(l) {
		addTo(z, l[i])
	}
	return trim(z)
}

// subtract is the difference; a is not below b.
func subtract(a, b []uint32) []uint32 {
	z := clone(a)
	subFrom(z, b)
	return trim(z)
}

// shiftLeft is a times 2^k.
func shiftLeft(a []uint32, k int) []uint32 {
	if len(a) == 0 {
		return nil
	}
	limbs, s := k/limbBits, k%limbBits
	z := make([]uint32, len(a)+limbs+1)
	for i := range len(a) {
		v := uint64(a[i]) << s
		z[limbs+i] |= uint32(v)
		z[limbs+i+1] = uint32(v >> limbBits)
	}
	return trim(z)
}

// shiftRight is a divided by 2^k, without the remainder.
func shiftRight(a []uint32, k int) []uint32 {
	limbs, s := k/limbBits, k%limbBits
	if limbs >= len(a) {
		return nil
	}
	z := make([]uint32, len(a)-limbs)
	for i := range len(z) {
		v := uint64(limbAt(a, limbs+i+1))<<limbBits | uint64(a[limbs+i])
		z[i] = uint32(v >> s)
	}
	return trim(z)
}
