package symbolic

import (
	"strings"

	"slope/api"
)

// answer is the model of a result, with the inputs of the one that was handed in.
func answer(m api.Model, r result) (api.Model, int, api.Errno) {
	if r.err != api.OK {
		return api.Model{}, r.at, r.err
	}
	var z api.Model
	for _, name := range m.Inputs {
		z.Inputs = append(z.Inputs, strings.Clone(name))
	}
	for _, f := range r.forms {
		z.Outs = append(z.Outs, laySum(&z, f))
		if len(z.Nodes) > api.MaxModel {
			return api.Model{}, 0, api.ErrModel
		}
	}
	return z, 0, api.OK
}

// put adds a node, whose kids are there, and tells its number.
func put(m *api.Model, x api.Expr) int {
	m.Nodes = append(m.Nodes, x)
	return len(m.Nodes) - 1
}

// putNumber adds a number, in new memory.
func putNumber(m *api.Model, c api.Rat) int {
	return put(m, api.Expr{Kind: api.ExprNumber, Num: copyRat(c)})
}

// putMany adds a sum or product of these, unless it is one alone.
func putMany(m *api.Model, kind api.ExprKind, kids []int) int {
	if len(kids) == 1 {
		return kids[0]
	}
	return put(m, api.Expr{Kind: kind, Kids: kids})
}

// laySum adds the nodes of a normal form, kids ahead, and tells the topmost one's number.
func laySum(m *api.Model, f form) int {
	var kids []int
	for _, t := range f.terms() {
		kids = append(kids, t.lay(m))
	}
	if c := f.constant(); !isZero(c) || len(kids) == 0 {
		kids = append(kids, putNumber(m, c))
	}
	return putMany(m, api.ExprSum, kids)
}

// lay adds the nodes of a term.
func (t *term) lay(m *api.Model) int {
	var kids []int
	for _, f := range t.factors {
		kids = append(kids, f.lay(m))
	}
	if !isOne(t.c) {
		kids = append(kids, putNumber(m, t.c))
	}
	return putMany(m, api.ExprProd, kids)
}

// lay adds the nodes of a factor.
func (f factor) lay(m *api.Model) int {
	n := f.base.lay(m)
	if f.power == 1 {
		return n
	}
	return put(m, api.Expr{Kind: api.ExprPow, N: f.power, Kids: []int{n}})
}

// lay adds the node of an input's name.
func (x letter) lay(m *api.Model) int {
	return put(m, api.Expr{Kind: api.ExprName, Name: strings.Clone(string(x))})
}

// lay adds the nodes of a compound sum.
func (f *compound) lay(m *api.Model) int { return laySum(m, f) }
