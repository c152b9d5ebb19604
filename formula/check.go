package formula

import (
	"slope/api"
	"slope/rational"
)

// noNode is the place of a fault that no node has.
const noNode = -1

// anyKids stands for any number of kids.
const anyKids = -1

// shape tells which fields a kind of nodes uses.
type shape struct {
	name, num, n bool
	kids         int
}

// shapes are those of all kinds.
var shapes = [...]shape{
	api.ExprNumber: {num: true},
	api.ExprName:   {name: true},
	api.ExprNeg:    {kids: 1},
	api.ExprAdd:    {kids: 2},
	api.ExprSub:    {kids: 2},
	api.ExprMul:    {kids: 2},
	api.ExprDiv:    {kids: 2},
	api.ExprPow:    {n: true, kids: 1},
	api.ExprSum:    {kids: anyKids},
	api.ExprProd:   {kids: anyKids},
	api.ExprCall:   {name: true, kids: anyKids},
}

// fits tells whether a node has what its kind uses and nothing else, without a look at what the name, the number and the kids are.
func (s shape) fits(x api.Expr) bool {
	switch {
	case !s.name && x.Name != "":
		return false
	case !s.num && (x.Num.Neg || len(x.Num.Num) > 0 || len(x.Num.Den) > 0):
		return false
	case !s.n && x.N != 0:
		return false
	case x.N < -api.MaxPower || x.N > api.MaxPower:
		return false
	}
	return s.kids == anyKids || len(x.Kids) == s.kids
}

// checker looks a model over.
type checker struct {
	m    api.Model
	used []bool
	scopes
}

// check is the first fault of a model; if there is none, its names.
func check(m api.Model) (scopes, fault) {
	c := checker{m: m}
	for _, step := range []func() fault{c.sizes, c.names, c.nodes, c.bodies, c.meanings} {
		if f := step(); f.err != api.OK {
			return scopes{}, f
		}
	}
	return c.scopes, fault{}
}

// sizes looks at how many there are of all.
func (c *checker) sizes() fault {
	m := c.m
	if len(m.Inputs) > api.MaxInputs {
		return fault{noNode, api.ErrInputs}
	}
	if len(m.Outs) == 0 || len(m.Outs) > api.MaxOutputs {
		return fault{noNode, api.ErrOutputs}
	}
	if len(m.Nodes) > api.MaxModel || len(m.Funcs) > api.MaxModel || len(m.Lets) > api.MaxModel {
		return fault{noNode, api.ErrModel}
	}
	for _, f := range m.Funcs {
		if len(f.Params) > api.MaxInputs {
			return fault{noNode, api.ErrModel}
		}
	}
	return fault{}
}

// names looks at the names that the model makes.
func (c *checker) names() fault {
	c.scopes = scopes{made: names{}, lets: len(c.m.Lets)}
	for i, s := range c.m.Inputs {
		if e := c.made.add(s, meaning{kind: meansInput, index: i}); e != api.OK {
			return fault{noNode, e}
		}
	}
	for i, f := range c.m.Funcs {
		if e := c.addFunc(i, f); e != api.OK {
			return fault{noNode, e}
		}
	}
	for i, l := range c.m.Lets {
		if e := c.made.add(l.Name, meaning{kind: meansLet, index: i}); e != api.OK {
			return fault{noNode, e}
		}
	}
	return fault{}
}

// addFunc makes the names of a function and of its parameters.
func (c *checker) addFunc(i int, f api.Func) api.Errno {
	if e := c.made.add(f.Name, meaning{kind: meansFunc, index: i, params: len(f.Params)}); e != api.OK {
		return e
	}
	params := names{}
	for j, s := range f.Params {
		if e := params.add(s, meaning{kind: meansParam, index: j}); e != api.OK {
			return e
		}
	}
	c.params = append(c.params, params)
	return api.OK
}

// nodes looks at each node by itself, and at its kids.
func (c *checker) nodes() fault {
	c.used = make([]bool, len(c.m.Nodes))
	for i, x := range c.m.Nodes {
		if e := c.node(i, x); e != api.OK {
			return fault{i, e}
		}
	}
	return fault{}
}

// node looks at one node.
func (c *checker) node(i int, x api.Expr) api.Errno {
	if x.Kind < api.ExprNumber || x.Kind > api.ExprCall {
		return api.ErrModel
	}
	s := shapes[x.Kind]
	if !s.fits(x) {
		return api.ErrModel
	}
	for _, k := range x.Kids {
		if !c.use(k, i) {
			return api.ErrModel
		}
	}
	if s.num && !rational.May(x.Num) {
		return api.ErrRat
	}
	if s.name && !isName(x.Name) {
		return api.ErrName
	}
	return api.OK
}

// use marks a node, if it is one of the first end ones and not used already.
func (c *checker) use(k, end int) bool {
	if k < 0 || k >= end || c.used[k] {
		return false
	}
	c.used[k] = true
	return true
}

// tops are the nodes of the bodies and outputs: function by function, let by let, output by output.
func tops(m api.Model) []int {
	var l []int
	for _, f := range m.Funcs {
		l = append(l, f.Body)
	}
	for _, v := range m.Lets {
		l = append(l, v.Body)
	}
	return append(l, m.Outs...)
}

// bodies looks at what the bodies and outputs are, and whether all nodes belong to some.
func (c *checker) bodies() fault {
	for _, k := range tops(c.m) {
		if !c.use(k, len(c.m.Nodes)) {
			return fault{noNode, api.ErrModel}
		}
	}
	for i, used := range c.used {
		if !used {
			return fault{i, api.ErrModel}
		}
	}
	return fault{}
}

// owners tells of each node to which body it belongs.
func owners(m api.Model) []int {
	l := make([]int, len(m.Nodes))
	for body, k := range tops(m) {
		l[k] = body
	}
	// Kids are earlier nodes, so each node is met ahead of its kids.
	for i := len(m.Nodes) - 1; i >= 0; i-- {
		for _, k := range m.Nodes[i].Kids {
			l[k] = l[i]
		}
	}
	return l
}

// meanings looks at what names and calls mean where they stand.
func (c *checker) meanings() fault {
	body := owners(c.m)
	for i, x := range c.m.Nodes {
		if e := meant(x, c.of(body[i])); e != api.OK {
			return fault{i, e}
		}
	}
	return fault{}
}

// meant looks at what a name or call means in that scope.
func meant(x api.Expr, s scope) api.Errno {
	switch x.Kind {
	case api.ExprName:
		if _, ok := s.value(x.Name); !ok {
			return api.ErrName
		}
	case api.ExprCall:
		f, ok := s.function(x.Name)
		if !ok {
			return api.ErrName
		}
		if f.params != len(x.Kids) {
			return api.ErrCount
		}
	}
	return api.OK
}
