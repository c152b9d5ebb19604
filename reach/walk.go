package reach

import (
	"slices"

	"slope/api"
	"slope/bitset"
	"slope/sparse"
	"slope/tape"
)

// walk is what one way up a tape keeps: the inputs that each node hangs on are a
// table within it, so that a node's set can be asked for as soon as the walk is
// past the node.
type walk struct {
	api.Table
	tape api.Tape
	live []bool
}

// climb looks at a tape and goes up its nodes.
func climb(t api.Tape) (walk, int, api.Errno) {
	// Live looks at the whole tape, so a tape that may be is looked at just once; it tells no place.
	live, e := tape.Live(t)
	if e != api.OK {
		place, _ := tape.Check(t)
		return walk{}, place, e
	}
	w := walk{Table: api.Table{Size: t.Inputs}, tape: t, live: live}
	for _, op := range t.Ops {
		w.Sets = append(w.Sets, w.set(op))
	}
	return w, 0, api.OK
}

// set is the inputs that a node hangs on; the walk is past its operands.
func (w walk) set(op api.Op) api.Set {
	if op.Kind == api.OpInput {
		return sure(bitset.Make(w.Size, op.A))
	}
	var below []api.Set
	for _, n := range operands(op) {
		below = append(below, w.Sets[n])
	}
	return sure(bitset.Union(w.Size, below...))
}

// operands are the nodes that a node uses, place by place.
func operands(op api.Op) []int {
	switch op.Kind {
	case api.OpAdd, api.OpSub, api.OpMul, api.OpDiv:
		return []int{op.A, op.B}
	case api.OpNeg, api.OpPow:
		return []int{op.A}
	}
	return nil
}

// hangs tells whether a node hangs on an input.
func (w walk) hangs(n int, input int) bool { return bitset.Has(w.Sets[n], input) }

// moves tells whether a node hangs on any input at all.
func (w walk) moves(n int) bool { return bitset.Count(w.Sets[n]) > 0 }

// outputs are the inputs that each output hangs on.
func (w walk) outputs() api.Table {
	t := api.Table{Size: w.Size}
	for _, n := range w.tape.Outs {
		t.Sets = append(t.Sets, w.Sets[n])
	}
	return t
}

// pattern has a row for each set of a table, and there a place for each element.
func pattern(t api.Table) api.Pattern {
	var rs, cs []int
	for r, s := range t.Sets {
		for c := range bitset.All(s) {
			rs, cs = append(rs, r), append(cs, c)
		}
	}
	return sure(sparse.Build(len(t.Sets), t.Size, rs, cs))
}

// way leads to a node from an input, found from its end on; there is none if the node doesn't hang on the input.
func (w walk) way(input int, n int) []int {
	if !w.hangs(n, input) {
		return nil
	}
	z := []int{n}
	for w.tape.Ops[n].Kind != api.OpInput {
		n = w.below(input, n)
		z = append(z, n)
	}
	slices.Reverse(z)
	return z
}

// below is the least operand that hangs on an input, of a node that does and is no input itself.
func (w walk) below(input int, n int) int {
	least := n
	for _, k := range operands(w.tape.Ops[n]) {
		if w.hangs(k, input) {
			least = min(least, k)
		}
	}
	return least
}

// sure leaves away an error that can't be: a tape that may be has fewer inputs, outputs and nodes than sets, tables and patterns may have.
func sure[T any](v T, _ api.Errno) T { return v }
