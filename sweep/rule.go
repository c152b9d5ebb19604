package sweep

import "slope/api"

// rule is what a kind of nodes does with x, the values at a node's places.
type rule interface {
	// pole tells whether there is no value.
	pole(x []api.Rat) bool
	// value is the value, where there is no pole.
	value(x []api.Rat) api.Rat
	// first are the derivatives by each place.
	first(x []api.Rat) []api.Rat
	// second are the derivatives of each of these by each place; none, if all of them are 0 everywhere.
	second(x []api.Rat) [][]api.Rat
}

// node is a rule and the nodes that stand at its places.
type node struct {
	rule
	places []int
}

// smooth is of kinds that have no pole.
type smooth struct{}

func (smooth) pole([]api.Rat) bool { return false }

// straight is of kinds whose first derivatives don't move.
type straight struct{ smooth }

func (straight) second([]api.Rat) [][]api.Rat { return nil }

// A rule for each kind; x is empty for inputs and constants, a alone for negatives and powers, else a and b.
type (
	inputRule struct {
		straight
		x api.Rat
	}
	constRule struct {
		straight
		c api.Rat
	}
	sumRule        struct{ straight }
	differenceRule struct{ straight }
	productRule    struct{ smooth }
	quotientRule   struct{}
	negRule        struct{ straight }
	powerRule      struct{ n int }
)

// nodeOf is a tape's node at a point.
func nodeOf(op api.Op, point []api.Rat) node {
	switch op.Kind {
	case api.OpInput:
		return node{rule: inputRule{x: point[op.A]}}
	case api.OpConst:
		return node{rule: constRule{c: op.C}}
	case api.OpNeg:
		return node{negRule{}, []int{op.A}}
	case api.OpPow:
		return node{powerRule{op.N}, []int{op.A}}
	}
	return node{pairRule(op.Kind), []int{op.A, op.B}}
}

// pairRule is the rule of a kind with two operands.
func pairRule(kind api.Kind) rule {
	switch kind {
	case api.OpAdd:
		return sumRule{}
	case api.OpSub:
		return differenceRule{}
	case api.OpMul:
		return productRule{}
	}
	return quotientRule{}
}

func (r inputRule) value([]api.Rat) api.Rat { return r.x }
func (inputRule) first([]api.Rat) []api.Rat { return nil }

func (r constRule) value([]api.Rat) api.Rat { return r.c }
func (constRule) first([]api.Rat) []api.Rat { return nil }

func (sumRule) value(x []api.Rat) api.Rat { return sum(x[0], x[1]) }
func (sumRule) first([]api.Rat) []api.Rat { return []api.Rat{whole(1), whole(1)} }

func (differenceRule) value(x []api.Rat) api.Rat { return difference(x[0], x[1]) }
func (differenceRule) first([]api.Rat) []api.Rat { return []api.Rat{whole(1), whole(-1)} }

func (productRule) value(x []api.Rat) api.Rat   { return product(x[0], x[1]) }
func (productRule) first(x []api.Rat) []api.Rat { return []api.Rat{x[1], x[0]} }
func (productRule) second([]api.Rat) [][]api.Rat {
	return [][]api.Rat{{whole(0), whole(1)}, {whole(1), whole(0)}}
}

func (quotientRule) pole(x []api.Rat) bool     { return isZero(x[1]) }
func (quotientRule) value(x []api.Rat) api.Rat { return quotient(x[0], x[1]) }

func (quotientRule) first(x []api.Rat) []api.Rat {
	a, b := x[0], x[1]
	return []api.Rat{raised(b, -1), negative(quotient(a, raised(b, 2)))}
}

func (quotientRule) second(x []api.Rat) [][]api.Rat {
	a, b := x[0], x[1]
	both := negative(raised(b, -2))
	return [][]api.Rat{{whole(0), both}, {both, product(whole(2), quotient(a, raised(b, 3)))}}
}

func (negRule) value(x []api.Rat) api.Rat { return negative(x[0]) }
func (negRule) first([]api.Rat) []api.Rat { return []api.Rat{whole(-1)} }

func (r powerRule) pole(x []api.Rat) bool     { return r.n < 0 && isZero(x[0]) }
func (r powerRule) value(x []api.Rat) api.Rat { return raised(x[0], r.n) }

func (r powerRule) first(x []api.Rat) []api.Rat {
	// Of 0 there is no power -1: the factor 0 comes ahead of it.
	if r.n == 0 {
		return []api.Rat{whole(0)}
	}
	return []api.Rat{product(whole(r.n), raised(x[0], r.n-1))}
}

func (r powerRule) second(x []api.Rat) [][]api.Rat {
	if r.n == 0 || r.n == 1 {
		return nil
	}
	return [][]api.Rat{{product(whole(r.n*(r.n-1)), raised(x[0], r.n-2))}}
}
