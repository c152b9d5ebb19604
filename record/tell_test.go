package record_test

import (
	"testing"

	"slope/api"
	"slope/formula"
	"slope/record"
	"slope/tape"
)

// wantTell fails if a tape's model is not that of this text.
func wantTell(t *testing.T, lines, want string) {
	t.Helper()
	z, at, e := record.Tell(mustTape(t, lines))
	if at != 0 || e != api.OK || showModel(z) != showModel(must(t, want)) {
		s, _ := formula.Print(z)
		t.Errorf("Tell(%s): %q, place %d, error %d, want %q", lines, s, at, e, want)
	}
}

// P6.5: tapes as models.
func TestTell(t *testing.T) {
	wantTell(t, "inputs 1; in 0; const 2; mul 0 1; out 2; out 1", "in x0\nlet n2 = x0 * 2\nout n2, 2")
	wantTell(t, "inputs 0; const -3/2; out 0", "out [-3/2]")
	wantTell(t, "inputs 0; const 1; const 0; div 0 1; out 2; out 2", "let n2 = 1 / 0\nout n2, n2")
	wantTell(t, "inputs 3; in 2; in 0; in 2; sub 0 1; out 2; out 3", "in x0, x1, x2\nlet n3 = x2 - x0\nout x2, n3")
	wantTell(t, "inputs 1; in 0; add 0 0; sub 1 0; mul 2 2; div 3 1; neg 4; pow 5 -7; pow 6 0; out 7; out 7; out 0", "in x0\nlet n1 = x0 + x0\nlet n2 = n1 - x0\nlet n3 = n2 * n2\nlet n4 = n3 / n1\nlet n5 = -n4\nlet n6 = n5^-7\nlet n7 = n6^0\nout n7, n7, x0")
	// What is not live is told too.
	wantTell(t, "inputs 2; in 1; const 4; neg 1; pow 0 3; out 0", "in x0, x1\nlet n2 = -4\nlet n3 = x1^3\nout x1")
	wantTell(t, "inputs 2; const 7; out 0", "in x0, x1\nout 7")
}

// P6.5: a model of MaxModel nodes, and one more.
func TestMostTold(t *testing.T) {
	t.Parallel()
	x := api.Tape{Inputs: 1, Ops: []api.Op{{Kind: api.OpInput}, {Kind: api.OpAdd}}}
	for len(x.Ops) < api.MaxNodes {
		x.Ops = append(x.Ops, api.Op{Kind: api.OpNeg, A: len(x.Ops) - 1})
	}
	x.Outs = []int{api.MaxNodes - 1}
	m, _, e := record.Tell(x)
	if e != api.OK || len(m.Nodes) != api.MaxModel || len(m.Lets) != api.MaxNodes-1 {
		t.Errorf("%d nodes, error %d", len(m.Nodes), e)
	}
	if _, f := formula.Check(m); f != api.OK {
		t.Errorf("Check answers error %d", f)
	}
	for _, way := range record.Ways() {
		if r, _, f := record.Record(m, way); f != api.OK || showTape(r) != showTape(x) {
			t.Errorf("recorded again, %v: error %d", way, f)
		}
	}
	x.Outs = append(x.Outs, 0)
	for _, x := range []api.Tape{x, {Inputs: 1, Ops: append(x.Ops[:2:2], repeatOp(api.Op{Kind: api.OpMul}, api.MaxNodes-2)...), Outs: []int{0}}} {
		z, at, e := record.Tell(x)
		if at != 0 || e != api.ErrModel || showModel(z) != showModel(api.Model{}) {
			t.Errorf("one more: %s, place %d, error %d", short(showModel(z)), at, e)
		}
	}
}

// repeatOp is a node so many times.
func repeatOp(op api.Op, n int) []api.Op {
	l := make([]api.Op, n)
	for i := range l {
		l[i] = op
	}
	return l
}

// P6.5: a faulty tape has Check's error and place.
func TestTellFaults(t *testing.T) {
	in := api.Op{Kind: api.OpInput}
	met := map[api.Errno]bool{}
	for what, x := range map[string]api.Tape{
		"nothing":        {},
		"inputs below 0": {Inputs: -1, Outs: []int{0}},
		"65 inputs":      {Inputs: 65, Outs: []int{0}},
		"2049 nodes":     {Inputs: 1, Ops: repeatOp(in, 2049), Outs: []int{0}},
		"65 outputs":     {Inputs: 1, Ops: []api.Op{in}, Outs: make([]int, 65)},
		"a kind":         {Inputs: 1, Ops: []api.Op{in, {Kind: 9}}, Outs: []int{0}},
		"an unused B":    {Inputs: 1, Ops: []api.Op{in, {Kind: api.OpNeg, B: 1}}, Outs: []int{0}},
		"an input":       {Inputs: 1, Ops: []api.Op{in, {Kind: api.OpInput, A: 1}}, Outs: []int{0}},
		"a constant":     {Inputs: 1, Ops: []api.Op{in, in, {Kind: api.OpConst}}, Outs: []int{0}},
		"an operand":     {Inputs: 1, Ops: []api.Op{in, {Kind: api.OpAdd, A: 0, B: 1}}, Outs: []int{0}},
		"a power":        {Inputs: 1, Ops: []api.Op{in, {Kind: api.OpPow, N: -1025}}, Outs: []int{0}},
		"an output":      {Inputs: 1, Ops: []api.Op{in, in}, Outs: []int{0, 1, 2}},
	} {
		at, e := tape.Check(x)
		z, place, f := record.Tell(x)
		if e == api.OK || place != at || f != e || showModel(z) != showModel(api.Model{}) {
			t.Errorf("Tell(%s): %s, place %d, error %d, want place %d, error %d", what, showModel(z), place, f, at, e)
		}
		met[e] = true
	}
	if len(met) != 10 {
		t.Errorf("not every error of Check was met: %v", met)
	}
}
