package record

import (
	"strings"

	"slope/api"
)

// twig is an expression without lets and calls; what stands in several places is one twig.
type twig struct {
	x    api.Expr // without its kids
	kids []*twig
	size int // how many nodes it makes, as far as that is told apart
}

// outputTrees are a model's outputs with everything put in its place.
func outputTrees(m api.Model) []*twig {
	inputs := make([]*twig, len(m.Inputs))
	for i, name := range m.Inputs {
		inputs[i] = newTwig(api.Expr{Kind: api.ExprName, Name: name}, nil)
	}
	// A twig is as good as its copy, so lets are shared here; copies are made when it is laid down.
	w := newWalk(m, false, inputs, func(x api.Expr, kids []*twig) (*twig, api.Errno) {
		return newTwig(x, kids), api.OK
	})
	var l []*twig
	for _, n := range m.Outs {
		z, _ := w.output(n)
		l = append(l, z)
	}
	return l
}

// newTwig is a twig of a node over these kids.
func newTwig(x api.Expr, kids []*twig) *twig {
	return &twig{x, kids, min(1+size(kids), api.MaxModel+1)}
}

// size is how many nodes twigs make, each counted as often as it stands there.
func size(l []*twig) int {
	n := 0
	for _, t := range l {
		n += t.size
	}
	return n
}

// flat is the model of these inputs and outputs.
func flat(inputs []string, outs []*twig) api.Model {
	var m api.Model
	for _, name := range inputs {
		m.Inputs = append(m.Inputs, strings.Clone(name))
	}
	for _, t := range outs {
		m.Outs = append(m.Outs, t.lay(&m))
	}
	return m
}

// lay lays a twig down in new memory, its kids ahead of it, and tells its number.
func (t *twig) lay(m *api.Model) int {
	x := api.Expr{Kind: t.x.Kind, Name: strings.Clone(t.x.Name), Num: copyRat(t.x.Num), N: t.x.N}
	for _, kid := range t.kids {
		x.Kids = append(x.Kids, kid.lay(m))
	}
	m.Nodes = append(m.Nodes, x)
	return len(m.Nodes) - 1
}
