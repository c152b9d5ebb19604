package reach

import (
	"slope/api"
	"slope/bitset"
)

// fold is the operands at two places at which a node bends.
type fold struct{ p, q int }

// folds are all of a node's.
func folds(op api.Op) []fold {
	switch {
	case op.Kind == api.OpMul:
		return []fold{{op.A, op.B}}
	case op.Kind == api.OpDiv:
		return []fold{{op.A, op.B}, {op.B, op.B}}
	case op.Kind == api.OpPow && op.N != 0 && op.N != 1:
		return []fold{{op.A, op.A}}
	}
	return nil
}

// joins are the inputs with which each input is joined by a live node: all that stand across from a node that hangs on it.
func (w walk) joins() api.Table {
	return sure(bitset.Product(sure(bitset.Turn(w.Table)), w.across()))
}

// across are, of each node, the inputs that the other operand hangs on, wherever the node is one of two at which a live node bends.
func (w walk) across() api.Table {
	facing := map[int][]api.Set{}
	for n, op := range w.tape.Ops {
		if !w.live[n] {
			continue
		}
		for _, f := range folds(op) {
			facing[f.p] = append(facing[f.p], w.Sets[f.q])
			facing[f.q] = append(facing[f.q], w.Sets[f.p])
		}
	}
	t := api.Table{Size: w.Size}
	for n := range w.Sets {
		t.Sets = append(t.Sets, sure(bitset.Union(w.Size, facing[n]...)))
	}
	return t
}

// bend is the least live node that joins two inputs, and whether there is one.
func (w walk) bend(j int, k int) (int, bool) {
	for n, op := range w.tape.Ops {
		if w.live[n] && w.joined(op, j, k) {
			return n, true
		}
	}
	return 0, false
}

// joined tells whether a node joins two inputs.
func (w walk) joined(op api.Op, j int, k int) bool {
	for _, f := range folds(op) {
		if w.hangs(f.p, j) && w.hangs(f.q, k) || w.hangs(f.p, k) && w.hangs(f.q, j) {
			return true
		}
	}
	return false
}

// straight tells of each output whether it hangs on no node that joins any inputs.
func (w walk) straight() []bool {
	bent := make([]bool, 0, len(w.tape.Ops))
	for _, op := range w.tape.Ops {
		bent = append(bent, w.joinsAny(op) || anyOf(bent, operands(op)))
	}
	z := make([]bool, 0, len(w.tape.Outs))
	for _, n := range w.tape.Outs {
		z = append(z, !bent[n])
	}
	return z
}

// joinsAny tells whether a node joins any inputs.
func (w walk) joinsAny(op api.Op) bool {
	for _, f := range folds(op) {
		if w.moves(f.p) && w.moves(f.q) {
			return true
		}
	}
	return false
}

// anyOf tells whether one of these nodes is marked.
func anyOf(marked []bool, nodes []int) bool {
	for _, n := range nodes {
		if marked[n] {
			return true
		}
	}
	return false
}
