package formula

import "slices"

// needs tells of each input, function and let whether it is needed, 1 or 0.
type needs struct {
	inputs, funcs, lets []int
}

// needs are those of a program with these names.
func (p program) needs(s scopes) needs {
	n := needs{make([]int, len(p.inputs)), make([]int, len(p.funcs)), make([]int, len(p.lets))}
	// From the last one on: a body is needed only by what stands behind it.
	for i, t := range slices.Backward(p.bodies()) {
		if n.needsBody(i) {
			n.mark(t, s.of(i))
		}
	}
	return n
}

// needsBody tells whether a body is needed, as far as it is marked by now; outputs are.
func (n needs) needsBody(i int) bool {
	if i < len(n.funcs) {
		return n.funcs[i] == 1
	}
	i -= len(n.funcs)
	return i >= len(n.lets) || n.lets[i] == 1
}

// mark marks what a tree names and calls.
func (n needs) mark(t tree, s scope) {
	switch t := t.(type) {
	case named:
		m, _ := s.value(t.name)
		n.markOne(m)
	case called:
		m, _ := s.function(t.name)
		n.markOne(m)
	}
	for _, k := range t.kids() {
		n.mark(k, s)
	}
}

// markOne marks an input, a function or a let.
func (n needs) markOne(m meaning) {
	switch m.kind {
	case meansInput:
		n.inputs[m.index] = 1
	case meansFunc:
		n.funcs[m.index] = 1
	case meansLet:
		n.lets[m.index] = 1
	}
}
