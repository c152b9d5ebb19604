package solve

import (
	"slices"

	"slope/api"
	"slope/natural"
	"slope/rational"
)

// whole is a whole number; of 0 neg tells nothing.
type whole struct {
	neg  bool
	size api.Nat
}

// sure leaves away an error that can't be: what is not large has no number on the way that is too large.
func sure[T any](v T, _ api.Errno) T { return v }

// one is the whole number 1.
func one() whole { return whole{size: natural.From(1)} }

func (a whole) isZero() bool { return len(a.size) == 0 }

// isUnit tells whether the number is 1 or -1.
func (a whole) isUnit() bool { return len(a.size) == 1 && a.size[0] == 1 }

func (a whole) negative() whole { return whole{!a.neg, a.size} }

func (a whole) times(b whole) whole {
	return whole{a.neg != b.neg, sure(natural.Mul(a.size, b.size))}
}

func (a whole) minus(b whole) whole {
	if a.neg != b.neg {
		return whole{a.neg, sure(natural.Add(a.size, b.size))}
	}
	size, turned, _ := natural.Diff(a.size, b.size)
	return whole{a.neg != turned, size}
}

// over is the quotient by a number that is known to go into this one.
func (a whole) over(d whole) whole {
	if d.isUnit() {
		return whole{a.neg != d.neg, a.size}
	}
	return whole{a.neg != d.neg, quotient(a.size, d.size)}
}

// quotient is n by d, without what is left.
func quotient(n, d api.Nat) api.Nat {
	q, _, _ := natural.DivMod(n, d)
	return q
}

// ratio is the number a over d, in new memory.
func ratio(a, d whole) api.Rat {
	return sure(rational.Make(a.neg != d.neg, a.size, d.size))
}

// zeros are so many zeros.
func zeros(n int) []api.Rat {
	z := make([]api.Rat, n)
	for i := range z {
		z[i] = rational.FromInt(0)
	}
	return z
}

// negatives are the numbers with the other signs, of the same lists.
func negatives(l []api.Rat) []api.Rat {
	for i := range l {
		l[i].Neg = !l[i].Neg && len(l[i].Num) > 0
	}
	return l
}

// copyRats are numbers in new memory.
func copyRats(l []api.Rat) []api.Rat {
	z := make([]api.Rat, len(l))
	for i, r := range l {
		z[i] = api.Rat{Neg: r.Neg, Num: slices.Clone(r.Num), Den: slices.Clone(r.Den)}
	}
	return z
}
