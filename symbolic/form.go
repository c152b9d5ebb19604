package symbolic

import "slope/api"

// form is a normal form: a value of one of the types below. None is ever changed,
// so that many may stand on one.
type form interface {
	// terms are in the order of their factors' parts.
	terms() []*term
	constant() api.Rat
}

type (
	// number is a sum without terms.
	number struct{ value api.Rat }

	// monomial is a sum of one term and the constant 0.
	monomial struct{ only *term }

	// compound is every other sum.
	compound struct {
		list []*term
		rest api.Rat
		told string // what it is called as a base, once that was asked for
	}
)

func (f number) terms() []*term    { return nil }
func (f monomial) terms() []*term  { return []*term{f.only} }
func (f *compound) terms() []*term { return f.list }

func (f number) constant() api.Rat    { return f.value }
func (f monomial) constant() api.Rat  { return whole(0) }
func (f *compound) constant() api.Rat { return f.rest }

// formOf is the normal form of terms, which stand in their order, and a constant.
func formOf(list []*term, rest api.Rat) form {
	switch {
	case len(list) == 0:
		return number{rest}
	case len(list) == 1 && isZero(rest):
		return monomial{list[0]}
	}
	return &compound{list: list, rest: rest}
}

// isNothing tells whether a normal form is the number 0.
func isNothing(f form) bool { return len(f.terms()) == 0 && isZero(f.constant()) }

// termOf is the one term that a normal form is, or is taken for; it is no number.
func termOf(f form) *term {
	switch f := f.(type) {
	case monomial:
		return f.only
	case *compound:
		return newTerm(whole(1), []factor{{f, 1}})
	}
	return nil
}
