package series

import (
	"slices"

	"slope/api"
	"slope/natural"
	"slope/rational"
)

// whole is a whole number, below 0 if neg; of 0 that means nothing.
type whole struct {
	neg  bool
	size api.Nat
}

// sure leaves away an error that can't be: nothing is too large.
func sure(n api.Nat, _ api.Errno) api.Nat { return n }

// one is the number 1.
func one() whole { return whole{size: natural.From(1)} }

func (a whole) isZero() bool { return len(a.size) == 0 }

func (a whole) negative() whole { return whole{!a.neg, a.size} }

func (a whole) plus(b whole) whole {
	if a.neg == b.neg {
		return whole{a.neg, sure(natural.Add(a.size, b.size))}
	}
	size, turned, _ := natural.Diff(a.size, b.size)
	return whole{a.neg != turned, size}
}

func (a whole) times(b whole) whole {
	return whole{a.neg != b.neg, sure(natural.Mul(a.size, b.size))}
}

// by is the quotient by a natural that divides the number.
func (a whole) by(d api.Nat) whole {
	size, _, _ := natural.DivMod(a.size, d)
	return whole{a.neg, size}
}

// over is a over b, which is not 0, in lowest terms and in new memory.
func (a whole) over(b whole) api.Rat {
	r, _ := rational.Make(a.neg != b.neg, a.size, b.size)
	return r
}

// crossed adds up the products of the first number of one list and the last one
// of the other, and so on; those that are 0 are left out, which most are in
// constants and inputs.
func crossed(a, b []whole) whole {
	var z whole
	for i := range a {
		if x, y := a[i], b[len(b)-1-i]; !x.isZero() && !y.isZero() {
			z = z.plus(x.times(y))
		}
	}
	return z
}

// isZero tells whether a number is 0.
func isZero(r api.Rat) bool { return len(r.Num) == 0 }

// padded is so many numbers: the first of these, and zeros behind them.
func padded(size int, l ...api.Rat) []api.Rat {
	z := make([]api.Rat, size)
	for i := copy(z, l); i < size; i++ {
		z[i] = rational.FromInt(0)
	}
	return z
}

// copyRats are numbers in new memory.
func copyRats(l []api.Rat) []api.Rat {
	z := make([]api.Rat, len(l))
	for i, r := range l {
		z[i] = api.Rat{Neg: r.Neg, Num: slices.Clone(r.Num), Den: slices.Clone(r.Den)}
	}
	return z
}
