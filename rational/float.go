package rational

import (
	"slope/api"
	"slope/natural"
)

// The form of a floating-point number of 64 bits.
const (
	fractionBits = 52
	exponentMask = 1<<11 - 1
	leastUnit    = -1074 // the power of 2 that the last bit of the least numbers is worth
	greatestUnit = 971   // the same of the greatest ones
	signBit      = 1 << 63
	infinity     = exponentMask << fractionBits
	significant  = fractionBits + 1
	hiddenBit    = 1 << fractionBits
	fractionMask = hiddenBit - 1
)

// Float gives the bits of the nearest floating-point number.
func Float(r api.Rat) (uint64, api.Errno) {
	if !May(r) {
		return 0, api.ErrRat
	}
	b := floatOfSize(r.Num, r.Den)
	if r.Neg {
		b |= signBit
	}
	return b, api.OK
}

// floatOfSize is the bits of the nearest number to num over den.
func floatOfSize(num, den api.Nat) uint64 {
	if len(num) == 0 {
		return 0
	}
	// The highest bit of num over den is worth 2^(difference of bits), or half
	// of that; the last bit of the answer, 2^unit, stands below the lesser one.
	unit := max(natural.Bits(num)-natural.Bits(den)-significant, leastUnit)
	// A bit below the last one at least, to round by.
	up := max(0, 1-unit)
	w, left := product(num, sure(natural.Shl(one(), up))).by(den)
	q := sure(w.narrow())
	drop := unit + up
	if natural.Bits(q)-drop > significant {
		drop++
		unit++
	}
	if unit > greatestUnit {
		return infinity
	}
	n := dropBits(q, drop, len(left) > 0)
	// A normal number's highest bit adds 1 to the exponent; so does a carry
	// of rounding, up to infinity.
	return uint64(unit-leastUnit)<<fractionBits + n
}

// dropBits is n without its lowest bits, one or more, rounded; more tells that n is below what is rounded.
func dropBits(n api.Nat, drop int, more bool) uint64 {
	z, _ := natural.Uint(sure(natural.Shr(n, drop)))
	if natural.Bit(n, drop-1) == 0 {
		return z
	}
	if more || natural.Tail(n) < drop-1 {
		return z + 1
	}
	return z + z&1
}

// FromFloat gives the number of a floating-point number's bits.
func FromFloat(b uint64) (api.Rat, api.Errno) {
	exponent := int(b >> fractionBits & exponentMask)
	if exponent == exponentMask {
		return api.Rat{}, api.ErrArg
	}
	n := b & fractionMask
	if exponent > 0 {
		n |= hiddenBit
		exponent--
	}
	num, den := natural.From(n), one()
	if unit := exponent + leastUnit; unit > 0 {
		num = sure(natural.Shl(num, unit))
	} else {
		den = sure(natural.Shl(den, -unit))
	}
	return lowest(b&signBit != 0, num, den), api.OK
}
