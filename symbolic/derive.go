package symbolic

import (
	"slices"

	"slope/api"
)

// derived is a normal form's derivative by the input of that name.
func derived(f form, input string) (form, api.Errno) {
	g := newGather()
	for _, t := range f.terms() {
		d, e := t.by(input)
		if e == api.OK {
			e = g.add(d)
		}
		if e != api.OK {
			return nil, e
		}
	}
	return g.form(), api.OK
}

// by is a term's derivative.
func (t *term) by(input string) (form, api.Errno) {
	g := newGather()
	for i := range t.factors {
		d, e := t.share(i, input)
		if e == api.OK {
			e = g.add(d)
		}
		if e != api.OK {
			return nil, e
		}
	}
	return g.form(), api.OK
}

// share is what a factor gives to the derivative of its term.
func (t *term) share(i int, input string) (form, api.Errno) {
	d, e := t.factors[i].base.by(input)
	if e != api.OK || isNothing(d) {
		return d, e
	}
	left, e := t.left(i)
	if e != api.OK {
		return nil, e
	}
	return multiply(left, d)
}

// left is what is left of a term when one of its factors is derived by its base.
func (t *term) left(i int) (form, api.Errno) {
	n := t.factors[i].power
	c, e := times(t.c, whole(n))
	if e != api.OK {
		return nil, e
	}
	if !isPower(n - 1) {
		return nil, api.ErrPower
	}
	factors := slices.Clone(t.factors)
	factors[i].power--
	if n == 1 {
		factors = slices.Delete(factors, i, i+1)
	}
	return settled(c, factors)
}

// by is 1 of the input itself, 0 of another one.
func (x letter) by(input string) (form, api.Errno) {
	if string(x) == input {
		return number{whole(1)}, api.OK
	}
	return number{whole(0)}, api.OK
}

// by is a compound sum's derivative.
func (f *compound) by(input string) (form, api.Errno) { return derived(f, input) }
