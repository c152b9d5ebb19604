package symbolic

import (
	"slices"

	"slope/api"
	"slope/rational"
)

// whole is a whole number.
func whole(n int) api.Rat { return rational.FromInt(n) }

// isZero tells whether a number is 0.
func isZero(r api.Rat) bool { return len(r.Num) == 0 }

// isOne tells whether a number is 1.
func isOne(r api.Rat) bool { return !r.Neg && isUnit(r.Num) && isUnit(r.Den) }

// isUnit tells whether a natural is 1.
func isUnit(n api.Nat) bool { return len(n) == 1 && n[0] == 1 }

// plus is the sum of two numbers. With 0 it is the other one itself, and small
// whole numbers are added here: layer 2 looks first whether both sides may be,
// which costs more than such a sum.
func plus(a, b api.Rat) (api.Rat, api.Errno) {
	switch {
	case isZero(a):
		return b, api.OK
	case isZero(b):
		return a, api.OK
	case isSmall(a) && isSmall(b):
		return whole(small(a) + small(b)), api.OK
	}
	return rational.Add(a, b)
}

// isSmall tells whether a number that is not 0 is whole and of one limb.
func isSmall(r api.Rat) bool { return len(r.Num) == 1 && isUnit(r.Den) }

// small is such a number.
func small(r api.Rat) int {
	if r.Neg {
		return -int(r.Num[0])
	}
	return int(r.Num[0])
}

// times is the product of two numbers; by 0, 1 and -1 it is made of lists that stand
// already, for the same reason.
func times(a, b api.Rat) (api.Rat, api.Errno) {
	switch {
	case isZero(a), isOne(b):
		return a, api.OK
	case isZero(b), isOne(a):
		return b, api.OK
	case isMinusOne(b):
		return turned(a), api.OK
	}
	return rational.Mul(a, b)
}

// isMinusOne tells whether a number is -1.
func isMinusOne(r api.Rat) bool { return r.Neg && isUnit(r.Num) && isUnit(r.Den) }

// turned is a number that is not 0 with the other sign, of the same lists.
func turned(r api.Rat) api.Rat {
	r.Neg = !r.Neg
	return r
}

// raised is a number to a power that may be.
func raised(a api.Rat, n int) (api.Rat, api.Errno) {
	if isZero(a) && n < 0 {
		return api.Rat{}, api.ErrPole
	}
	if isOne(a) {
		return a, api.OK
	}
	return rational.Pow(a, n)
}

// printed is a number's text.
func printed(r api.Rat) string {
	s, _ := rational.Print(r)
	return s
}

// copyRat is a number in new memory.
func copyRat(r api.Rat) api.Rat {
	return api.Rat{Neg: r.Neg, Num: slices.Clone(r.Num), Den: slices.Clone(r.Den)}
}
