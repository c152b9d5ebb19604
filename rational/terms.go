package rational

import (
	"slope/api"
	"slope/natural"
)

// Terms gives at most most terms of the continued fraction, and whether these are all.
func Terms(r api.Rat, most int) ([]api.Rat, bool, api.Errno) {
	if !May(r) {
		return nil, false, api.ErrRat
	}
	if most < 1 || most > api.MaxTerms {
		return nil, false, api.ErrArg
	}
	q, left := floor(r)
	l := []api.Rat{q}
	den := r.Den
	for len(left) > 0 && len(l) < most {
		term, next, _ := natural.DivMod(den, left)
		l = append(l, whole(false, term))
		den, left = left, next
	}
	return l, len(left) == 0, api.OK
}

// FromTerms gives what a continued fraction makes.
func FromTerms(l []api.Rat) (api.Rat, api.Errno) {
	if !mayAll(l) {
		return api.Rat{}, api.ErrRat
	}
	if !areTerms(l) {
		return api.Rat{}, api.ErrArg
	}
	// 1 over infinity is 0: the last term stands alone.
	z := whole(false, nil)
	for i := len(l) - 1; i >= 0; i-- {
		var e api.Errno
		if z, e = add(l[i], z); e != api.OK {
			return api.Rat{}, e
		}
		if i > 0 {
			z.Num, z.Den = z.Den, z.Num
		}
	}
	return z, api.OK
}

// areTerms tells whether the numbers can be the terms of a continued fraction.
func areTerms(l []api.Rat) bool {
	if len(l) == 0 || len(l) > api.MaxTerms {
		return false
	}
	for i := range l {
		if !isOne(l[i].Den) || i > 0 && sign(l[i]) < 1 {
			return false
		}
	}
	return true
}
