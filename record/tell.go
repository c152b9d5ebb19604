package record

import (
	"strconv"

	"slope/api"
)

// operands are the nodes that a node works on.
func operands(op api.Op) []int {
	switch op.Kind {
	case api.OpInput, api.OpConst:
		return nil
	case api.OpNeg, api.OpPow:
		return []int{op.A}
	}
	return []int{op.A, op.B}
}

// exprKindOf is the kind of a model's node that says an operation.
func exprKindOf(k api.Kind) api.ExprKind {
	switch k {
	case api.OpAdd:
		return api.ExprAdd
	case api.OpSub:
		return api.ExprSub
	case api.OpMul:
		return api.ExprMul
	case api.OpDiv:
		return api.ExprDiv
	case api.OpNeg:
		return api.ExprNeg
	}
	return api.ExprPow
}

// toldSize is how many nodes a tape's model has.
func toldSize(t api.Tape) int {
	n := len(t.Outs)
	for _, op := range t.Ops {
		if l := operands(op); len(l) > 0 {
			n += 1 + len(l)
		}
	}
	return n
}

// told is a tape's model.
func told(t api.Tape) api.Model {
	var m api.Model
	for i := range t.Inputs {
		m.Inputs = append(m.Inputs, inputName(i))
	}
	lay := func(x api.Expr) int {
		m.Nodes = append(m.Nodes, x)
		return len(m.Nodes) - 1
	}
	for i, op := range t.Ops {
		l := operands(op)
		if len(l) == 0 {
			continue
		}
		x := api.Expr{Kind: exprKindOf(op.Kind), N: op.N}
		for _, n := range l {
			x.Kids = append(x.Kids, lay(word(t, n)))
		}
		m.Lets = append(m.Lets, api.Let{Name: letName(i), Body: lay(x)})
	}
	for _, n := range t.Outs {
		m.Outs = append(m.Outs, lay(word(t, n)))
	}
	return m
}

// word is what stands for a node where it is used.
func word(t api.Tape, n int) api.Expr {
	switch op := t.Ops[n]; op.Kind {
	case api.OpInput:
		return api.Expr{Kind: api.ExprName, Name: inputName(op.A)}
	case api.OpConst:
		return api.Expr{Kind: api.ExprNumber, Num: copyRat(op.C)}
	}
	return api.Expr{Kind: api.ExprName, Name: letName(n)}
}

// inputName is the name of an input.
func inputName(i int) string { return "x" + strconv.Itoa(i) }

// letName is the name of a node's let.
func letName(n int) string { return "n" + strconv.Itoa(n) }
