package series

import (
	"slope/api"
	"slope/natural"
	"slope/rational"
)

// wrong is the place of the first number that may not be, and whether there is one.
func wrong(l []api.Rat) (int, bool) {
	for i := range l {
		if !rational.May(l[i]) {
			return i, true
		}
	}
	return 0, false
}

// formFault is ErrRat or ErrDegree, if these are no series of one length.
func formFault(lists ...[]api.Rat) api.Errno {
	for _, l := range lists {
		if _, found := wrong(l); found {
			return api.ErrRat
		}
	}
	for _, l := range lists {
		if len(l) != len(lists[0]) || len(l) < 1 || len(l) > api.MaxOrder+1 {
			return api.ErrDegree
		}
	}
	return api.OK
}

// bitsOf is how many bits a number has, above and below.
func bitsOf(r api.Rat) int { return natural.Bits(r.Num) + natural.Bits(r.Den) }

// weight is the chapter's W: over the product of all Dens the coefficients are
// whole, and their sum has at most 5 bits more than the greatest.
func weight(a []api.Rat) int {
	w := 5
	for _, c := range a {
		w += bitsOf(c)
	}
	return w
}

// powerWeight is the weight of a power that is not 0.
func powerWeight(a []api.Rat, n int) int {
	if n < 0 {
		return 2 * len(a) * -n * weight(a)
	}
	return n * weight(a)
}
