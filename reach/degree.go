package reach

import "slope/api"

// none stands for the degree of what may be no polynomial.
const none = -1

// degrees bounds each node's degree.
func (w walk) degrees() []int {
	d := make([]int, 0, len(w.tape.Ops))
	for _, op := range w.tape.Ops {
		d = append(d, w.degree(op, d))
	}
	return d
}

// degree bounds a node's degree by those of the nodes ahead of it.
func (w walk) degree(op api.Op, d []int) int {
	switch op.Kind {
	case api.OpInput:
		return 1
	case api.OpConst:
		return 0
	case api.OpPow:
		return w.power(op.A, op.N, d)
	}
	for _, n := range operands(op) {
		if d[n] == none {
			return none
		}
	}
	switch op.Kind {
	case api.OpAdd, api.OpSub:
		return max(d[op.A], d[op.B])
	case api.OpMul:
		return capped(d[op.A] + d[op.B])
	case api.OpDiv:
		if w.moves(op.B) {
			return none
		}
	}
	return d[op.A]
}

// power bounds the degree of a node's power.
func (w walk) power(a int, n int, d []int) int {
	switch {
	case n == 0:
		return 0
	case n > 0 && d[a] != none:
		return capped(n * d[a])
	case n < 0 && !w.moves(a):
		return 0
	}
	return none
}

// capped keeps a degree from growing on: no sum of two and no product with a power comes near to wrapping then.
func capped(d int) int { return min(d, api.MaxWeight) }
