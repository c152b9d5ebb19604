package tape

import (
	"slices"

	"slope/api"
)

// sumOps are the nodes, behind a tape's own, that add up its outputs with weights.
func sumOps(t api.Tape, w []api.Rat) []api.Op {
	var l []api.Op
	lay := func(op api.Op) int {
		l = append(l, op)
		return len(t.Ops) + len(l) - 1
	}
	total := 0
	for i, out := range t.Outs {
		weight := lay(api.Op{Kind: api.OpConst, C: copyRat(w[i])})
		term := lay(api.Op{Kind: api.OpMul, A: weight, B: out})
		if i == 0 {
			total = term
			continue
		}
		total = lay(api.Op{Kind: api.OpAdd, A: total, B: term})
	}
	return l
}

// cut is the tape whose inputs are the nodes below upto, and the tape's own behind them.
func cut(t api.Tape, upto int) api.Tape {
	ops := copyOps(t.Ops)
	for i := range ops {
		switch {
		case i < upto:
			ops[i] = api.Op{Kind: api.OpInput, A: i}
		case ops[i].Kind == api.OpInput:
			ops[i].A += upto
		}
	}
	return api.Tape{Inputs: upto + t.Inputs, Ops: ops, Outs: slices.Clone(t.Outs)}
}
