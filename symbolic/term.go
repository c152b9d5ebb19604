package symbolic

import (
	"slices"
	"strings"

	"slope/api"
)

// base is what a factor is a power of: an input's name or a compound sum.
type base interface {
	// word is the base's text; two bases are the same just if their words are.
	word() string
	// by is its derivative by the input of that name.
	by(input string) (form, api.Errno)
	// lay adds its nodes to a model and tells the topmost one's number.
	lay(m *api.Model) int
}

// letter is an input's name.
type letter string

func (x letter) word() string { return string(x) }

// word is a compound sum's text in brackets. It is kept, for a sum that is a
// factor of one thing is often one of many.
func (f *compound) word() string {
	if f.told == "" {
		f.told = enclosed(f, "(", ")")
	}
	return f.told
}

// factor is a base and its power, which is not 0.
type factor struct {
	base  base
	power int
}

// term is a coefficient, which is not 0, and factors in the order of their bases' words.
type term struct {
	c       api.Rat
	factors []factor
	part    string // the factors' part of the text
	told    string // the coefficient's text, once it was asked for
}

// newTerm is a term of factors that stand in their order.
func newTerm(c api.Rat, factors []factor) *term {
	return &term{c: c, factors: factors, part: partOf(factors)}
}

// with is the term with another coefficient.
func (t *term) with(c api.Rat) *term {
	return &term{c: c, factors: t.factors, part: t.part}
}

// head is the coefficient's text.
func (t *term) head() string {
	if t.told == "" {
		t.told = printed(t.c)
	}
	return t.told
}

// joined are the factors of a product: those of like bases are one, and what has
// the power 0 then is left out.
func joined(a, b []factor) ([]factor, api.Errno) {
	list := slices.Clone(a)
	where := make(map[string]int, len(a))
	for i, f := range a {
		where[f.base.word()] = i
	}
	for _, f := range b {
		i, found := where[f.base.word()]
		if !found {
			list = append(list, f)
			continue
		}
		if list[i].power += f.power; !isPower(list[i].power) {
			return nil, api.ErrPower
		}
	}
	list = slices.DeleteFunc(list, func(f factor) bool { return f.power == 0 })
	slices.SortFunc(list, func(x, y factor) int { return strings.Compare(x.base.word(), y.base.word()) })
	return list, api.OK
}

// isPower tells whether a power may be.
func isPower(n int) bool { return n >= -api.MaxPower && n <= api.MaxPower }

// settled is the normal form of a coefficient, which is not 0, and factors in their order.
func settled(c api.Rat, factors []factor) (form, api.Errno) {
	if len(factors) == 0 {
		return number{c}, api.OK
	}
	if len(factors) == 1 && factors[0].power == 1 {
		if f, is := factors[0].base.(*compound); is {
			return scaled(f, c)
		}
	}
	return fitting(monomial{newTerm(c, factors)})
}
