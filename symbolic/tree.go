package symbolic

import "slope/api"

// tree is a node of a model with all that hangs on it: a value of one of the types below.
type tree interface {
	// kids are what is worked out ahead of it, whatever it is.
	kids() []tree
}

type (
	numeral struct{ value api.Rat }

	named struct{ name string }

	negated struct{ kid tree }

	// pair is one of + - * /.
	pair struct {
		kind        api.ExprKind
		left, right tree
	}

	powered struct {
		kid tree
		n   int
	}

	added struct{ list []tree }

	multiplied struct{ list []tree }

	// called has no kids: an argument is worked out where the function names it.
	called struct {
		name      string
		arguments []tree
	}
)

func (t numeral) kids() []tree    { return nil }
func (t named) kids() []tree      { return nil }
func (t negated) kids() []tree    { return []tree{t.kid} }
func (t pair) kids() []tree       { return []tree{t.left, t.right} }
func (t powered) kids() []tree    { return []tree{t.kid} }
func (t added) kids() []tree      { return t.list }
func (t multiplied) kids() []tree { return t.list }
func (t called) kids() []tree     { return nil }

// grow is the tree of a node over its kids' trees.
func grow(x api.Expr, kids []tree) tree {
	switch x.Kind {
	case api.ExprNumber:
		return numeral{x.Num}
	case api.ExprName:
		return named{x.Name}
	case api.ExprNeg:
		return negated{kids[0]}
	case api.ExprPow:
		return powered{kids[0], x.N}
	case api.ExprSum:
		return added{kids}
	case api.ExprProd:
		return multiplied{kids}
	case api.ExprCall:
		return called{x.Name, kids}
	}
	return pair{x.Kind, kids[0], kids[1]}
}

// grown are the trees of a model's nodes, by their numbers; the model may be.
func grown(m api.Model) []tree {
	trees := make([]tree, len(m.Nodes))
	for i, x := range m.Nodes {
		kids := make([]tree, len(x.Kids))
		for j, k := range x.Kids {
			kids[j] = trees[k]
		}
		trees[i] = grow(x, kids)
	}
	return trees
}
