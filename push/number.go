package push

import (
	"slices"

	"slope/api"
	"slope/rational"
)

// sure leaves away an error that can't be: nothing is large, and no pole is met.
func sure[T any](v T, _ api.Errno) T { return v }

// whole is a whole number.
func whole(n int) api.Rat { return rational.FromInt(n) }

// isZero tells whether a number is 0.
func isZero(r api.Rat) bool { return len(r.Num) == 0 }

// isUnit tells whether a number is 1 or -1.
func isUnit(r api.Rat) bool { return isOne(r.Num) && isOne(r.Den) }

// isOne tells whether a natural is 1.
func isOne(n api.Nat) bool { return len(n) == 1 && n[0] == 1 }

// negative is a number of a's own lists, with the other sign.
func negative(a api.Rat) api.Rat {
	a.Neg = !a.Neg && !isZero(a)
	return a
}

// sum is that of two numbers; with 0 it is the other one itself, for layer 2
// looks first whether both sides may be, which costs more than a sum.
func sum(a, b api.Rat) api.Rat {
	switch {
	case isZero(a):
		return b
	case isZero(b):
		return a
	}
	return sure(rational.Add(a, b))
}

// product is that of two numbers; by 0, 1 and -1, which most partials are, it is
// of lists that stand already, for the same reason.
func product(a, b api.Rat) api.Rat {
	switch {
	case isZero(a):
		return a
	case isZero(b):
		return b
	case isUnit(a) && a.Neg:
		return negative(b)
	case isUnit(a):
		return b
	}
	return sure(rational.Mul(a, b))
}

// dot adds up the products of two lists.
func dot(a, b []api.Rat) api.Rat {
	z := whole(0)
	for i := range a {
		z = sum(z, product(a[i], b[i]))
	}
	return z
}

// raised is a^n. The derivatives of powers go down to 2 below -MaxPower, of which
// layer 2 answers nothing.
func raised(a api.Rat, n int) api.Rat {
	if n < -api.MaxPower {
		return product(raised(a, n+2), raised(a, -2))
	}
	return sure(rational.Pow(a, n))
}

// zeros are so many zeros.
func zeros(n int) []api.Rat {
	z := make([]api.Rat, n)
	for i := range z {
		z[i] = whole(0)
	}
	return z
}

// copyRat is a number in new memory.
func copyRat(r api.Rat) api.Rat {
	return api.Rat{Neg: r.Neg, Num: slices.Clone(r.Num), Den: slices.Clone(r.Den)}
}

// copyRats are numbers in new memory.
func copyRats(l []api.Rat) []api.Rat {
	z := make([]api.Rat, len(l))
	for i := range l {
		z[i] = copyRat(l[i])
	}
	return z
}
