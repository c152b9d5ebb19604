package symbolic

import "slope/api"

// sum is what normal forms come to when they are added from the left.
func sum(l []form) (form, api.Errno) {
	g := newGather()
	for _, f := range l {
		if e := g.add(f); e != api.OK {
			return nil, e
		}
	}
	return g.form(), api.OK
}

// product is what normal forms come to when they are multiplied from the left.
func product(l []form) (form, api.Errno) {
	if len(l) == 0 {
		return number{whole(1)}, api.OK
	}
	z := l[0]
	for _, f := range l[1:] {
		var e api.Errno
		if z, e = multiply(z, f); e != api.OK {
			return nil, e
		}
	}
	return z, api.OK
}

// reckoned is what one of + - * / makes of two normal forms.
func reckoned(kind api.ExprKind, a, b form) (form, api.Errno) {
	var e api.Errno
	switch kind {
	case api.ExprSub:
		b, e = negative(b)
	case api.ExprDiv:
		b, e = power(b, -1)
	}
	if e != api.OK {
		return nil, e
	}
	if kind == api.ExprAdd || kind == api.ExprSub {
		return add(a, b)
	}
	return multiply(a, b)
}

// add is the sum of two normal forms; the longer one goes first, for that is less work.
func add(a, b form) (form, api.Errno) {
	if len(a.terms()) < len(b.terms()) {
		a, b = b, a
	}
	return sum([]form{a, b})
}

// negative is -1 times a normal form.
func negative(f form) (form, api.Errno) { return scaled(f, whole(-1)) }

// scaled is a number times a normal form.
func scaled(f form, c api.Rat) (form, api.Errno) {
	switch {
	case isZero(c):
		return number{c}, api.OK
	case isOne(c):
		return f, api.OK
	}
	rest, e := times(f.constant(), c)
	if e != api.OK {
		return nil, e
	}
	list := make([]*term, len(f.terms()))
	for i, t := range f.terms() {
		z, e := times(t.c, c)
		if e != api.OK {
			return nil, e
		}
		list[i] = t.with(z)
	}
	return fitting(formOf(list, rest))
}

// multiply is the product of two normal forms.
func multiply(a, b form) (form, api.Errno) {
	if n, is := a.(number); is {
		return scaled(b, n.value)
	}
	if n, is := b.(number); is {
		return scaled(a, n.value)
	}
	x, y := termOf(a), termOf(b)
	c, e := times(x.c, y.c)
	if e != api.OK {
		return nil, e
	}
	factors, e := joined(x.factors, y.factors)
	if e != api.OK {
		return nil, e
	}
	return settled(c, factors)
}

// power is a normal form to a power that may be.
func power(f form, n int) (form, api.Errno) {
	switch n {
	case 0:
		return number{whole(1)}, api.OK
	case 1:
		return f, api.OK
	}
	k, is := f.(number)
	if !is {
		return termOf(f).raised(n)
	}
	z, e := raised(k.value, n)
	if e != api.OK {
		return nil, e
	}
	return number{z}, api.OK
}

// raised is a term to a power that is not 0.
func (t *term) raised(n int) (form, api.Errno) {
	c, e := raised(t.c, n)
	if e != api.OK {
		return nil, e
	}
	factors := make([]factor, len(t.factors))
	for i, f := range t.factors {
		factors[i] = factor{f.base, f.power * n}
		if !isPower(factors[i].power) {
			return nil, api.ErrPower
		}
	}
	return settled(c, factors)
}
