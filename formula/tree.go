package formula

import (
	"slices"
	"strings"

	"slope/api"
)

// tree is a node of a formula with all that hangs on it: a value of one of the types below.
type tree interface {
	kids() []tree
}

type (
	number struct{ value api.Rat }

	named struct{ name string }

	negated struct{ kid tree }

	// pair is one of + - * /.
	pair struct {
		kind        api.ExprKind
		left, right tree
	}

	raised struct {
		kid tree
		n   int
	}

	// many is sum( ) or prod( ).
	many struct {
		kind api.ExprKind
		list []tree
	}

	called struct {
		name string
		list []tree
	}
)

func (t number) kids() []tree  { return nil }
func (t named) kids() []tree   { return nil }
func (t negated) kids() []tree { return []tree{t.kid} }
func (t pair) kids() []tree    { return []tree{t.left, t.right} }
func (t raised) kids() []tree  { return []tree{t.kid} }
func (t many) kids() []tree    { return t.list }
func (t called) kids() []tree  { return t.list }

// grow is the tree of a node that may be, over its kids' trees.
func grow(x api.Expr, kids []tree) tree {
	switch x.Kind {
	case api.ExprNumber:
		return number{x.Num}
	case api.ExprName:
		return named{x.Name}
	case api.ExprNeg:
		return negated{kids[0]}
	case api.ExprPow:
		return raised{kids[0], x.N}
	case api.ExprSum, api.ExprProd:
		return many{x.Kind, kids}
	case api.ExprCall:
		return called{x.Name, kids}
	}
	return pair{x.Kind, kids[0], kids[1]}
}

// node is a tree's topmost node without its kids, in new memory.
func node(t tree) api.Expr {
	switch t := t.(type) {
	case number:
		num := api.Rat{Neg: t.value.Neg, Num: slices.Clone(t.value.Num), Den: slices.Clone(t.value.Den)}
		return api.Expr{Kind: api.ExprNumber, Num: num}
	case named:
		return api.Expr{Kind: api.ExprName, Name: strings.Clone(t.name)}
	case negated:
		return api.Expr{Kind: api.ExprNeg}
	case pair:
		return api.Expr{Kind: t.kind}
	case raised:
		return api.Expr{Kind: api.ExprPow, N: t.n}
	case many:
		return api.Expr{Kind: t.kind}
	case called:
		return api.Expr{Kind: api.ExprCall, Name: strings.Clone(t.name)}
	}
	return api.Expr{}
}

// function is a function of a program.
type function struct {
	name   string
	params []string
	body   tree
}

// value is a let of a program.
type value struct {
	name string
	body tree
}

// program is a model whose bodies and outputs are trees.
type program struct {
	inputs []string
	funcs  []function
	lets   []value
	outs   []tree
}

// unfold is the program of a model that may be.
func unfold(m api.Model) program {
	trees := make([]tree, len(m.Nodes))
	for i, x := range m.Nodes {
		kids := make([]tree, len(x.Kids))
		for j, k := range x.Kids {
			kids[j] = trees[k]
		}
		trees[i] = grow(x, kids)
	}
	p := program{inputs: m.Inputs}
	for _, f := range m.Funcs {
		p.funcs = append(p.funcs, function{f.Name, f.Params, trees[f.Body]})
	}
	for _, l := range m.Lets {
		p.lets = append(p.lets, value{l.Name, trees[l.Body]})
	}
	for _, o := range m.Outs {
		p.outs = append(p.outs, trees[o])
	}
	return p
}

// bodies are all trees: function by function, let by let, output by output.
func (p program) bodies() []tree {
	var l []tree
	for _, f := range p.funcs {
		l = append(l, f.body)
	}
	for _, v := range p.lets {
		l = append(l, v.body)
	}
	return append(l, p.outs...)
}

// model is the program as a model, its nodes numbered as a text's are.
func (p program) model() api.Model {
	var m api.Model
	m.Inputs = cloneTexts(p.inputs)
	for _, f := range p.funcs {
		body := lay(&m, f.body)
		m.Funcs = append(m.Funcs, api.Func{Name: strings.Clone(f.name), Params: cloneTexts(f.params), Body: body})
	}
	for _, v := range p.lets {
		body := lay(&m, v.body)
		m.Lets = append(m.Lets, api.Let{Name: strings.Clone(v.name), Body: body})
	}
	for _, t := range p.outs {
		m.Outs = append(m.Outs, lay(&m, t))
	}
	return m
}

// lay adds a tree's nodes to a model, kids ahead, and answers the topmost one's number.
func lay(m *api.Model, t tree) int {
	x := node(t)
	for _, k := range t.kids() {
		x.Kids = append(x.Kids, lay(m, k))
	}
	m.Nodes = append(m.Nodes, x)
	return len(m.Nodes) - 1
}

// cloneTexts is a list of texts in new memory.
func cloneTexts(l []string) []string {
	z := make([]string, len(l))
	for i, s := range l {
		z[i] = strings.Clone(s)
	}
	return z
}

// sameModel tells whether two models are written in the same way.
func sameModel(a, b api.Model) bool {
	return slices.Equal(a.Inputs, b.Inputs) && slices.Equal(a.Outs, b.Outs) && slices.Equal(a.Lets, b.Lets) &&
		slices.EqualFunc(a.Funcs, b.Funcs, sameFunc) && slices.EqualFunc(a.Nodes, b.Nodes, sameNode)
}

// sameFunc tells whether two functions are written in the same way.
func sameFunc(a, b api.Func) bool {
	return a.Name == b.Name && a.Body == b.Body && slices.Equal(a.Params, b.Params)
}

// sameNode tells whether two nodes are written in the same way.
func sameNode(a, b api.Expr) bool {
	return a.Kind == b.Kind && a.Name == b.Name && a.N == b.N && slices.Equal(a.Kids, b.Kids) &&
		a.Num.Neg == b.Num.Neg && slices.Equal(a.Num.Num, b.Num.Num) && slices.Equal(a.Num.Den, b.Num.Den)
}
