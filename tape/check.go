package tape

import (
	"slope/api"
	"slope/rational"
)

// shape tells the word of a kind's line, and which fields the kind uses.
type shape struct {
	word       string
	a, b, n, c bool
}

// shapes are those of all kinds.
var shapes = [...]shape{
	api.OpInput: {word: "in", a: true},
	api.OpConst: {word: "const", c: true},
	api.OpAdd:   {word: "add", a: true, b: true},
	api.OpSub:   {word: "sub", a: true, b: true},
	api.OpMul:   {word: "mul", a: true, b: true},
	api.OpDiv:   {word: "div", a: true, b: true},
	api.OpNeg:   {word: "neg", a: true},
	api.OpPow:   {word: "pow", a: true, n: true},
}

// isKind tells whether there is such a kind.
func isKind(k api.Kind) bool { return k >= api.OpInput && k <= api.OpPow }

// shapeOf is that of a kind that there is.
func shapeOf(k api.Kind) shape { return shapes[k] }

// leaves tells whether the fields that the kind doesn't use are empty.
func (s shape) leaves(op api.Op) bool {
	return (s.a || op.A == 0) && (s.b || op.B == 0) && (s.n || op.N == 0) && (s.c || isBlank(op.C))
}

// isBlank tells whether a constant is as it stands where there is none.
func isBlank(r api.Rat) bool { return !r.Neg && len(r.Num) == 0 && len(r.Den) == 0 }

// below tells whether a number is one of the first so many.
func below(n, count int) bool { return n >= 0 && n < count }

// operands are the nodes that a node uses.
func operands(op api.Op) []int {
	switch op.Kind {
	case api.OpInput, api.OpConst:
		return nil
	case api.OpNeg, api.OpPow:
		return []int{op.A}
	}
	return []int{op.A, op.B}
}

// sizesFault is the fault of a tape that no node has.
func sizesFault(t api.Tape) api.Errno {
	switch {
	case t.Inputs < 0 || t.Inputs > api.MaxInputs:
		return api.ErrInputs
	case len(t.Ops) > api.MaxNodes:
		return api.ErrNodes
	case len(t.Outs) == 0 || len(t.Outs) > api.MaxOutputs:
		return api.ErrOutputs
	}
	return api.OK
}

// opFault is the first fault of a node.
func opFault(t api.Tape, at int) api.Errno {
	op := t.Ops[at]
	if !isKind(op.Kind) {
		return api.ErrKind
	}
	if !shapeOf(op.Kind).leaves(op) {
		return api.ErrUnused
	}
	if op.Kind == api.OpInput && !below(op.A, t.Inputs) {
		return api.ErrIndex
	}
	if op.Kind == api.OpConst && !rational.May(op.C) {
		return api.ErrRat
	}
	for _, n := range operands(op) {
		if !below(n, at) {
			return api.ErrOperand
		}
	}
	// Of all other kinds N is 0.
	if op.N < -api.MaxPower || op.N > api.MaxPower {
		return api.ErrPower
	}
	return api.OK
}
