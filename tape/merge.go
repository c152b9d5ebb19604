package tape

import (
	"slices"
	"strings"

	"slope/api"
)

// gone is the new number of a node that was left out.
const gone = -1

// trim is the tape of the live nodes, and each old node's new number.
func trim(t api.Tape) (api.Tape, []int) {
	alive := live(t)
	to := make([]int, len(t.Ops))
	var ops []api.Op
	for i := range t.Ops {
		if !alive[i] {
			to[i] = gone
			continue
		}
		to[i] = len(ops)
		ops = append(ops, renumbered(t.Ops[i], to))
	}
	return api.Tape{Inputs: t.Inputs, Ops: ops, Outs: through(t.Outs, to)}, to
}

// merge is the tape without nodes that are as one ahead of them, and each old node's new number.
func merge(t api.Tape) (api.Tape, []int) {
	kept := map[likeness]int{}
	to := make([]int, len(t.Ops))
	var ops []api.Op
	for i := range t.Ops {
		op := sorted(renumbered(t.Ops[i], to))
		like := likenessOf(op)
		n, found := kept[like]
		if !found {
			n = len(ops)
			kept[like] = n
			ops = append(ops, op)
		}
		to[i] = n
	}
	return api.Tape{Inputs: t.Inputs, Ops: ops, Outs: through(t.Outs, to)}, to
}

// through are the new numbers of nodes; what is gone stays gone.
func through(l, to []int) []int {
	z := make([]int, len(l))
	for i, n := range l {
		z[i] = gone
		if n != gone {
			z[i] = to[n]
		}
	}
	return z
}

// renumbered is a copy of a node over its operands' new numbers.
func renumbered(op api.Op, to []int) api.Op {
	z := copyOp(op)
	switch l := operands(op); len(l) {
	case 2:
		z.A, z.B = to[l[0]], to[l[1]]
	case 1:
		z.A = to[l[0]]
	}
	return z
}

// sorted is a node with the lesser operand ahead, where their order doesn't matter.
func sorted(op api.Op) api.Op {
	if op.Kind == api.OpAdd || op.Kind == api.OpMul {
		op.A, op.B = min(op.A, op.B), max(op.A, op.B)
	}
	return op
}

// likeness is all of a node in a form that can be held against others by ==.
type likeness struct {
	kind    api.Kind
	a, b, n int
	neg     bool
	num     string
	den     string
}

// likenessOf is that of a node.
func likenessOf(op api.Op) likeness {
	return likeness{op.Kind, op.A, op.B, op.N, op.C.Neg, limbText(op.C.Num), limbText(op.C.Den)}
}

// limbText is a natural's limbs as bytes.
func limbText(n api.Nat) string {
	var b strings.Builder
	b.Grow(4 * len(n))
	for _, limb := range n {
		for shift := 0; shift < 32; shift += 8 {
			b.WriteByte(byte(limb >> shift))
		}
	}
	return b.String()
}

// copyRat is a number in new memory.
func copyRat(r api.Rat) api.Rat {
	return api.Rat{Neg: r.Neg, Num: slices.Clone(r.Num), Den: slices.Clone(r.Den)}
}

// copyOp is a node in new memory.
func copyOp(op api.Op) api.Op {
	op.C = copyRat(op.C)
	return op
}

// copyOps are nodes in new memory.
func copyOps(ops []api.Op) []api.Op {
	l := make([]api.Op, len(ops))
	for i := range ops {
		l[i] = copyOp(ops[i])
	}
	return l
}
