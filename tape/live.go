package tape

import "slope/api"

// live tells of each node whether an output hangs on it.
func live(t api.Tape) []bool {
	l := make([]bool, len(t.Ops))
	for _, n := range t.Outs {
		l[n] = true
	}
	// A node stands behind its operands: all that hang on it are through when its turn comes.
	for i := len(t.Ops) - 1; i >= 0; i-- {
		if !l[i] {
			continue
		}
		for _, n := range operands(t.Ops[i]) {
			l[n] = true
		}
	}
	return l
}

// uses tells of each node how often it is an operand or an output.
func uses(t api.Tape) []int {
	l := make([]int, len(t.Ops))
	for i := range len(t.Ops) {
		for _, n := range operands(t.Ops[i]) {
			l[n]++
		}
	}
	for _, n := range t.Outs {
		l[n]++
	}
	return l
}

// depths tells of each node how deep it is.
func depths(ops []api.Op) []int {
	l := make([]int, len(ops))
	for i := range len(ops) {
		for _, n := range operands(ops[i]) {
			l[i] = max(l[i], l[n]+1)
		}
	}
	return l
}
