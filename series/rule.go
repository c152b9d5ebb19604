package series

import "slope/api"

// node is what a rule is given: a node, the line, and the nodes that were worked out ahead of it.
type node struct {
	op    api.Op
	line  line
	known []fraction
}

// a and b are what stands at the node's places; only the rules of kinds that have them ask.
func (n node) a() fraction { return n.known[n.op.A] }
func (n node) b() fraction { return n.known[n.op.B] }

// size is how many coefficients a series has.
func (n node) size() int { return n.line.degree + 1 }

// rule is what a kind of nodes does.
type rule struct {
	pole func(n node) bool     // whether there is nothing that the node could be
	work func(n node) fraction // what it is, where there is no pole
}

// ruleOf is the rule of a kind.
func ruleOf(kind api.Kind) rule {
	never := func(node) bool { return false }
	rules := [...]rule{
		api.OpInput: {never, func(n node) fraction {
			return fractionOf(padded(n.size(), n.line.at[n.op.A], n.line.along[n.op.A]))
		}},
		api.OpConst: {never, func(n node) fraction { return constant(n.op.C, n.size()) }},
		api.OpAdd:   {never, func(n node) fraction { return n.a().plus(n.b()) }},
		api.OpSub:   {never, func(n node) fraction { return n.a().plus(n.b().negative()) }},
		api.OpMul:   {never, func(n node) fraction { return n.a().times(n.b()) }},
		api.OpDiv: {
			func(n node) bool { return n.b().beginsWithZero() },
			func(n node) fraction { return n.a().over(n.b()) },
		},
		api.OpNeg: {never, func(n node) fraction { return n.a().negative() }},
		api.OpPow: {
			func(n node) bool { return n.op.N < 0 && n.a().beginsWithZero() },
			func(n node) fraction { return n.a().power(n.op.N) },
		},
	}
	return rules[kind]
}
