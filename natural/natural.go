// Package natural: whole numbers from 0 up: see doc/01-natural.md.
//
// This file is the face: it looks at what is handed in, and answers in the
// chapter's order of errors. The work is done on plain lists of limbs, of any
// length, in the other files; what they give back is new memory.
package natural

import (
	"math/bits"

	"slope/api"
)

// maxBits is how many bits a natural has at most.
const maxBits = limbBits * api.MaxLimbs

// May tells whether a natural may be.
func May(n api.Nat) bool {
	return len(n) <= api.MaxLimbs && (len(n) == 0 || n[len(n)-1] != 0)
}

// fit answers the limbs of a result, which have no 0 on top.
func fit(z []uint32) (api.Nat, api.Errno) {
	if len(z) > api.MaxLimbs {
		return nil, api.ErrBig
	}
	return z, api.OK
}

// From is the natural with that value.
func From(v uint64) api.Nat { return fromWord(v) }

// Uint is the value of a natural below 2^64; false: it is none.
func Uint(n api.Nat) (uint64, bool) {
	if !May(n) || len(n) > 2 {
		return 0, false
	}
	return word(n), true
}

// Cmp compares two naturals.
func Cmp(a api.Nat, b api.Nat) int {
	if !May(a) || !May(b) {
		return 0
	}
	return compare(a, b)
}

// Bits tells how many binary digits a natural has.
func Bits(n api.Nat) int {
	if !May(n) {
		return 0
	}
	return bitLen(n)
}

// Bit is one of them.
func Bit(n api.Nat, i int) int {
	if !May(n) || i < 0 {
		return 0
	}
	return int(limbAt(n, i/limbBits) >> (i % limbBits) & 1)
}

// Ones tells how many of them are 1.
func Ones(n api.Nat) int {
	if !May(n) {
		return 0
	}
	count := 0
	for i := range len(n) {
		count += bits.OnesCount32(n[i])
	}
	return count
}

// Tail tells how many zeros stand below the lowest 1.
func Tail(n api.Nat) int {
	if !May(n) {
		return 0
	}
	for i := range len(n) {
		if n[i] != 0 {
			return i*limbBits + bits.TrailingZeros32(n[i])
		}
	}
	return 0
}

// Add is the sum.
func Add(a api.Nat, b api.Nat) (api.Nat, api.Errno) {
	if !May(a) || !May(b) {
		return nil, api.ErrNat
	}
	return fit(add(a, b))
}

// Sub is the difference.
func Sub(a api.Nat, b api.Nat) (api.Nat, api.Errno) {
	if !May(a) || !May(b) {
		return nil, api.ErrNat
	}
	if compare(a, b) < 0 {
		return nil, api.ErrUnder
	}
	return subtract(a, b), api.OK
}

// Mul is the product.
func Mul(a api.Nat, b api.Nat) (api.Nat, api.Errno) {
	if !May(a) || !May(b) {
		return nil, api.ErrNat
	}
	// A product has the bits of both factors together, or one less: what is
	// surely too big need not be worked out.
	if len(a) > 0 && len(b) > 0 && bitLen(a)+bitLen(b)-1 > maxBits {
		return nil, api.ErrBig
	}
	return fit(multiply(a, b))
}

// Diff is the greater less the lesser, and whether b is the greater.
func Diff(a api.Nat, b api.Nat) (api.Nat, bool, api.Errno) {
	if !May(a) || !May(b) {
		return nil, false, api.ErrNat
	}
	if compare(a, b) < 0 {
		return subtract(b, a), true, api.OK
	}
	return subtract(a, b), false, api.OK
}

// mayAll tells whether each of the naturals may be.
func mayAll(l []api.Nat) bool {
	for i := range len(l) {
		if !May(l[i]) {
			return false
		}
	}
	return true
}

// Sum adds all up.
func Sum(l ...api.Nat) (api.Nat, api.Errno) {
	if !mayAll(l) {
		return nil, api.ErrNat
	}
	// Sums only grow, so what is too big along the way is so at the end.
	return fit(addAll(l))
}

// Product multiplies all.
func Product(l ...api.Nat) (api.Nat, api.Errno) {
	if !mayAll(l) {
		return nil, api.ErrNat
	}
	z := From(1)
	for i := range len(l) {
		var e api.Errno
		if z, e = Mul(z, l[i]); e != api.OK {
			return nil, e
		}
	}
	return z, api.OK
}

// DivMod is the quotient and the remainder.
func DivMod(a api.Nat, b api.Nat) (api.Nat, api.Nat, api.Errno) {
	if !May(a) || !May(b) {
		return nil, nil, api.ErrNat
	}
	if len(b) == 0 {
		return nil, nil, api.ErrZero
	}
	q, r := divide(a, b)
	return q, r, api.OK
}

// checkShift tells what is wrong with what Shl or Shr is given.
func checkShift(n api.Nat, k int) api.Errno {
	if !May(n) {
		return api.ErrNat
	}
	if k < 0 || k > maxBits {
		return api.ErrArg
	}
	return api.OK
}

// Shl is n times 2^k.
func Shl(n api.Nat, k int) (api.Nat, api.Errno) {
	if e := checkShift(n, k); e != api.OK {
		return nil, e
	}
	return fit(shiftLeft(n, k))
}

// Shr is n divided by 2^k.
func Shr(n api.Nat, k int) (api.Nat, api.Errno) {
	if e := checkShift(n, k); e != api.OK {
		return nil, e
	}
	return shiftRight(n, k), api.OK
}

// bitwise joins two naturals limb by limb; what is missing on top is 0.
func bitwise(a api.Nat, b api.Nat, join func(x, y uint32) uint32) (api.Nat, api.Errno) {
	if !May(a) || !May(b) {
		return nil, api.ErrNat
	}
	z := make([]uint32, max(len(a), len(b)))
	for i := range len(z) {
		z[i] = join(limbAt(a, i), limbAt(b, i))
	}
	return trim(z), api.OK
}

// And has the bits that both have.
func And(a api.Nat, b api.Nat) (api.Nat, api.Errno) {
	return bitwise(a, b, func(x, y uint32) uint32 { return x & y })
}

// Or has the bits that one of them has.
func Or(a api.Nat, b api.Nat) (api.Nat, api.Errno) {
	return bitwise(a, b, func(x, y uint32) uint32 { return x | y })
}

// Xor has the bits that just one of them has.
func Xor(a api.Nat, b api.Nat) (api.Nat, api.Errno) {
	return bitwise(a, b, func(x, y uint32) uint32 { return x ^ y })
}

// Not has the bits of a that b has not.
func Not(a api.Nat, b api.Nat) (api.Nat, api.Errno) {
	return bitwise(a, b, func(x, y uint32) uint32 { return x &^ y })
}

// Pow is n to the power k.
func Pow(n api.Nat, k int) (api.Nat, api.Errno) {
	if !May(n) {
		return nil, api.ErrNat
	}
	if k < 0 || k > api.MaxPower {
		return nil, api.ErrArg
	}
	// 2^((bits - 1) * k) is not above the power; so what goes on from here is
	// at most k bits too big.
	if (bitLen(n)-1)*k >= maxBits {
		return nil, api.ErrBig
	}
	return fit(power(n, k))
}

// Root is the whole root k of n, and whether it is exact.
func Root(n api.Nat, k int) (api.Nat, bool, api.Errno) {
	if !May(n) {
		return nil, false, api.ErrNat
	}
	if k < 1 || k > api.MaxPower {
		return nil, false, api.ErrArg
	}
	z := root(n, k)
	return z, compare(power(z, k), n) == 0, api.OK
}

// Gcd is the greatest common divisor.
func Gcd(a api.Nat, b api.Nat) (api.Nat, api.Errno) {
	if !May(a) || !May(b) {
		return nil, api.ErrNat
	}
	return divisor(a, b), api.OK
}

// Lcm is the least common multiple.
func Lcm(a api.Nat, b api.Nat) (api.Nat, api.Errno) {
	if !May(a) || !May(b) {
		return nil, api.ErrNat
	}
	if len(a) == 0 || len(b) == 0 {
		return nil, api.OK
	}
	q, _ := divide(a, divisor(a, b))
	return Mul(q, b)
}
