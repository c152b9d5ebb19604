package engine

import (
	"slices"

	"slope/api"
)

// composed is outer behind inner: of two tapes that may be and that fit.
func composed(outer, inner api.Tape) api.Tape {
	z := api.Tape{Inputs: inner.Inputs}
	for _, op := range inner.Ops {
		z.Ops = append(z.Ops, copyOp(op))
	}
	for _, op := range outer.Ops {
		z.Ops = append(z.Ops, behind(op, inner))
	}
	for _, n := range outer.Outs {
		z.Outs = append(z.Outs, len(inner.Ops)+n)
	}
	return z
}

// behind is a node of a tape that comes behind inner, and has inner's outputs as its inputs.
func behind(op api.Op, inner api.Tape) api.Op {
	moved := copyOp(op)
	switch op.Kind {
	case api.OpInput:
		return api.Op{Kind: api.OpPow, A: inner.Outs[op.A], N: 1}
	case api.OpAdd, api.OpSub, api.OpMul, api.OpDiv:
		moved.A += len(inner.Ops)
		moved.B += len(inner.Ops)
	case api.OpNeg, api.OpPow:
		moved.A += len(inner.Ops)
	}
	return moved
}

// copyOp is a node in new memory.
func copyOp(op api.Op) api.Op {
	op.C.Num, op.C.Den = slices.Clone(op.C.Num), slices.Clone(op.C.Den)
	return op
}
