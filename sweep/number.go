package sweep

import (
	"slices"

	"slope/api"
	"slope/rational"
)

// sure leaves away an error that can't be: nothing is large, and no pole is met.
func sure(r api.Rat, _ api.Errno) api.Rat { return r }

// whole is a whole number.
func whole(n int) api.Rat { return rational.FromInt(n) }

// isZero tells whether a number is 0.
func isZero(r api.Rat) bool { return len(r.Num) == 0 }

// isUnit tells whether a number is 1 or -1.
func isUnit(r api.Rat) bool { return isOne(r.Num) && isOne(r.Den) }

// isOne tells whether a natural is 1.
func isOne(n api.Nat) bool { return len(n) == 1 && n[0] == 1 }

func difference(a, b api.Rat) api.Rat { return sure(rational.Sub(a, b)) }
func quotient(a, b api.Rat) api.Rat   { return sure(rational.Div(a, b)) }
func negative(a api.Rat) api.Rat      { return sure(rational.Neg(a)) }

// sum is that of two numbers. Of 0 and b it is b itself: what is added up begins
// with 0, and layer 2 looks first whether both sides may be, which costs more than
// a sum.
func sum(a, b api.Rat) api.Rat {
	if isZero(a) {
		return b
	}
	return sure(rational.Add(a, b))
}

// product is that of two numbers. By 1 and -1, the derivatives of sums, differences
// and negatives, it is of b's own lists, for the same reason.
func product(a, b api.Rat) api.Rat {
	if isUnit(a) {
		b.Neg = b.Neg != a.Neg && !isZero(b)
		return b
	}
	return sure(rational.Mul(a, b))
}

// raised is a^n. The derivatives of powers go down to 2 below -MaxPower, of which
// layer 2 answers nothing.
func raised(a api.Rat, n int) api.Rat {
	if n < -api.MaxPower {
		return quotient(raised(a, n+2), raised(a, 2))
	}
	return sure(rational.Pow(a, n))
}

// dot adds up the products of two lists, without those that are 0: along one
// input, or of one output, most are.
func dot(a, b []api.Rat) api.Rat {
	var x, y []api.Rat
	for i := range a {
		if !isZero(a[i]) && !isZero(b[i]) {
			x, y = append(x, a[i]), append(y, b[i])
		}
	}
	if len(x) == 1 {
		return product(x[0], y[0])
	}
	return sure(rational.Dot(x, y))
}

// those are the numbers of these nodes.
func those(l []api.Rat, nodes []int) []api.Rat {
	var z []api.Rat
	for _, n := range nodes {
		z = append(z, l[n])
	}
	return z
}

// zeros are so many zeros, each in memory of its own.
func zeros(n int) []api.Rat {
	z := make([]api.Rat, n)
	for i := range z {
		z[i] = whole(0)
	}
	return z
}

// copyRat is a number in new memory.
func copyRat(r api.Rat) api.Rat {
	return api.Rat{Neg: r.Neg, Num: slices.Clone(r.Num), Den: slices.Clone(r.Den)}
}

// copyRats are numbers in new memory.
func copyRats(l []api.Rat) []api.Rat {
	z := make([]api.Rat, len(l))
	for i := range l {
		z[i] = copyRat(l[i])
	}
	return z
}
