package sweep_test

import (
	"fmt"
	"testing"

	"slope/api"
	"slope/sweep"
)

// P7.1 to P7.4: the chapter's examples 1 and 2.
func TestExampleLine(t *testing.T) {
	x, at := example(), nums("6 2")
	l, place, e := sweep.Nodes(x, at)
	wantRow(t, "Nodes", l, place, e, "6 2 12 3")
	l, place, e = sweep.Values(x, at)
	wantRow(t, "Values", l, place, e, "12 3")
	l, place, e = sweep.Tangents(x, at, nums("1 0"))
	wantRow(t, "Tangents", l, place, e, "1 0 2 1/2")
	d, place, e := sweep.Forward(x, at, lists("1 0", "0 1"))
	wantRows(t, "Forward", d, place, e, "2 1/2", "6 -3/2")
	d, place, e = sweep.Reverse(x, at, lists("1 0", "0 2"))
	wantRows(t, "Reverse", d, place, e, "2 6", "1 -3")
	l, place, e = sweep.Adjoints(x, at, nums("1 2"))
	wantRow(t, "Adjoints", l, place, e, "3 3 1 2")
	d, place, e = sweep.Second(x, at, nums("1 0"), lists("1 0", "0 1"))
	wantRows(t, "Second", d, place, e, "0 1", "1 0")
	d, place, e = sweep.Second(x, at, nums("0 1"), lists("0 1"))
	wantRows(t, "Second", d, place, e, "-1/4 3/2")
}

// P7.1: the chapter's example 3.
func TestExamplePole(t *testing.T) {
	x, at := example(), nums("6 0")
	wantFaults(t, x, at, lists("1 0"), lists("1 0"))
	if n, found, place, e := sweep.Pole(x, at); n != 3 || !found || place != 0 || e != api.OK {
		t.Errorf("Pole: %d, %v, %d, %d", n, found, place, e)
	}
	if l, place, e := sweep.Values(x, at); place != 3 || e != api.ErrPole || len(l) > 0 {
		t.Errorf("Values: %s, %d, %d", row(l), place, e)
	}
	x.Outs = []int{2}
	l, place, e := sweep.Values(x, at)
	wantRow(t, "Values", l, place, e, "0")
	l, place, e = sweep.Nodes(x, at)
	wantRow(t, "Nodes", l, place, e, "6 0 0 0")
	if n, found, place, e := sweep.Pole(x, at); n != 0 || found || place != 0 || e != api.OK {
		t.Errorf("Pole: %d, %v, %d, %d", n, found, place, e)
	}
}

// P7.2, P7.4: the chapter's example 4.
func TestExampleAtZero(t *testing.T) {
	for _, c := range []struct{ node, value, first, second string }{{"mul 0 0", "0", "0", "2"}, {"pow 0 0", "1", "0", "0"}, {"pow 0 1", "0", "1", "0"}, {"pow 0 2", "0", "0", "2"}, {"pow 0 3", "0", "0", "0"}, {"sub 0 0", "0", "0", "0"}, {"add 0 0", "0", "2", "0"}, {"neg 0", "0", "-1", "0"}} {
		x := must(t, "inputs 1; in 0; "+c.node+"; out 1")
		at, one := nums("0"), lists("1")
		l, place, e := sweep.Values(x, at)
		wantRow(t, c.node, l, place, e, c.value)
		d, place, e := sweep.Forward(x, at, one)
		wantRows(t, c.node, d, place, e, c.first)
		d, place, e = sweep.Reverse(x, at, one)
		wantRows(t, c.node, d, place, e, c.first)
		d, place, e = sweep.Second(x, at, one[0], one)
		wantRows(t, c.node, d, place, e, c.second)
	}
	for _, node := range []string{"pow 0 -1", "pow 0 -2", "pow 0 -1024", "div 0 0"} {
		x := must(t, "inputs 1; in 0; "+node+"; out 1")
		wantFaults(t, x, nums("0"), lists("1"), lists("1"))
		if _, place, e := sweep.Values(x, nums("0")); place != 1 || e != api.ErrPole {
			t.Errorf("%s: %d, %d", node, place, e)
		}
	}
}

// P7.2, P7.3, P7.6: the chapter's example 5.
func TestExampleLists(t *testing.T) {
	x, at := example(), nums("6 2")
	if d, place, e := sweep.Forward(x, at, lists("1")); place != 0 || e != api.ErrSeeds || len(d) > 0 {
		t.Errorf("Forward: %s, %d, %d", rows(d), place, e)
	}
	if d, place, e := sweep.Reverse(x, at, make([][]api.Rat, 65)); place != 64 || e != api.ErrSeeds || len(d) > 0 {
		t.Errorf("Reverse: %s, %d, %d", rows(d), place, e)
	}
	for _, no := range [][][]api.Rat{nil, {}} {
		d, place, e := sweep.Forward(x, at, no)
		wantRows(t, "Forward", d, place, e)
		d, place, e = sweep.Reverse(x, at, no)
		wantRows(t, "Reverse", d, place, e)
		d, place, e = sweep.Second(x, at, nums("1 1"), no)
		wantRows(t, "Second", d, place, e)
	}
}

// P7.3, P7.4: the chapter's example 6.
func TestExampleTwice(t *testing.T) {
	x, at := must(t, "inputs 1; in 0; in 0; mul 0 1; out 2"), nums("5")
	l, place, e := sweep.Adjoints(x, at, nums("1"))
	wantRow(t, "Adjoints", l, place, e, "5 5 1")
	d, place, e := sweep.Reverse(x, at, lists("1"))
	wantRows(t, "Reverse", d, place, e, "10")
	d, place, e = sweep.Second(x, at, nums("1"), lists("1"))
	wantRows(t, "Second", d, place, e, "2")
}

// The first examples of the whole, of DOC.md.
func TestExampleWhole(t *testing.T) {
	x, at := must(t, "inputs 2; in 0; in 1; mul 0 1; pow 2 2; add 3 0; div 2 1; out 4; out 5"), nums("3 1/2")
	l, place, e := sweep.Values(x, at)
	wantRow(t, "Values", l, place, e, "21/4 3")
	d, place, e := sweep.Forward(x, at, units(2))
	wantRows(t, "Forward", d, place, e, "5/2 1", "9 0")
	d, place, e = sweep.Reverse(x, at, units(2))
	wantRows(t, "Reverse", d, place, e, "5/2 9", "1 0")
	d, place, e = sweep.Second(x, at, nums("1 0"), units(2))
	wantRows(t, "Second", d, place, e, "1/2 6", "6 18")
	d, place, e = sweep.Second(x, at, nums("0 1"), units(2))
	wantRows(t, "Second", d, place, e, "0 0", "0 0")
	if _, place, e := sweep.Values(x, nums("3 0")); place != 5 || e != api.ErrPole {
		t.Errorf("at (3, 0): %d, %d", place, e)
	}
	x.Outs = []int{4}
	l, place, e = sweep.Values(x, nums("3 0"))
	wantRow(t, "Values", l, place, e, "3")
}

// P7.1 to P7.4: every power that has a rule of its own, and the greatest ones, at 0 too.
func TestPowers(t *testing.T) {
	t.Parallel()
	for _, n := range []int{-1024, -1023, -1022, -3, -2, -1, 0, 1, 2, 3, 1022, 1023, 1024} {
		for _, at := range []string{"0", "1", "-1", "2", "-2/3", "1/2", "-5"} {
			x := api.Tape{Inputs: 1, Ops: []api.Op{in(0), pow(0, n)}, Outs: []int{1}}
			wantPlain(t, x, nums(at), lists("1", "-2/3"), lists("1", "3/5"))
			if at != "0" || n >= 0 {
				continue
			}
			if place, found, _, _ := sweep.Pole(x, nums(at)); place != 1 || !found {
				t.Errorf("power %d of 0: %d, %v", n, place, found)
			}
		}
	}
	x := api.Tape{Inputs: 1, Ops: []api.Op{in(0), pow(0, -1024)}, Outs: []int{1}}
	d, place, e := sweep.Second(x, nums("-1"), nums("1"), lists("1"))
	wantRows(t, "power -1024", d, place, e, fmt.Sprint(1024*1025))
	d, place, e = sweep.Reverse(x, nums("-1"), lists("1"))
	wantRows(t, "power -1024", d, place, e, "1024")
	x.Ops[1].N = 1024
	d, place, e = sweep.Second(x, nums("-1"), nums("1"), lists("1"))
	wantRows(t, "power 1024", d, place, e, fmt.Sprint(1024*1023))
}

// P7.1 to P7.4: shapes that the chapter names.
func TestEdges(t *testing.T) {
	for what, text := range map[string]string{
		"both places, sum":              "inputs 1; in 0; add 0 0; out 1",
		"both places, difference":       "inputs 1; in 0; sub 0 0; out 1",
		"both places, product":          "inputs 1; in 0; mul 0 0; out 1",
		"both places, quotient":         "inputs 1; in 0; div 0 0; out 1",
		"a node at both places":         "inputs 2; in 0; in 1; mul 0 1; mul 2 2; div 3 3; out 4; out 3",
		"an input at two nodes":         "inputs 1; in 0; in 0; div 0 1; mul 0 2; out 3",
		"an input at three nodes":       "inputs 2; in 1; in 1; mul 0 1; in 1; mul 2 3; out 4; out 3",
		"an input at none":              "inputs 3; in 1; mul 0 0; out 1",
		"an input whose node is dead":   "inputs 2; in 0; in 1; mul 0 0; out 2",
		"one output twice":              "inputs 1; in 0; mul 0 0; out 1; out 1; out 0; out 1",
		"an output is an input":         "inputs 2; in 0; in 1; mul 0 1; out 1; out 2",
		"an output is a constant":       "inputs 1; const 7/3; in 0; mul 0 1; out 0; out 2",
		"a constant alone":              "inputs 2; const -7/3; out 0",
		"no inputs":                     "inputs 0; const 5/3; pow 0 -3; mul 0 1; div 1 2; out 3; out 0",
		"dead nodes":                    "inputs 1; const 0; in 0; div 1 0; pow 0 -1; mul 2 3; mul 1 1; neg 5; add 5 5; out 7",
		"an input and its own square":   "inputs 1; in 0; pow 0 2; mul 0 1; add 2 0; out 3; out 0",
		"an output under another":       "inputs 2; in 0; in 1; div 0 1; pow 2 -2; neg 3; sub 4 2; out 5; out 2; out 3",
		"all kinds":                     "inputs 2; in 0; in 1; const 2/3; add 0 2; sub 3 1; mul 4 0; div 5 1; neg 6; pow 7 3; out 8",
		"a factor 0":                    "inputs 2; in 0; in 1; const 0; mul 0 2; mul 3 1; div 4 1; out 5",
		"a chain of negatives":          "inputs 1; in 0; neg 0; neg 1; neg 2; mul 3 3; neg 4; out 5",
		"sums that come to 0":           "inputs 2; in 0; in 1; mul 0 1; sub 2 2; mul 3 0; out 4",
		"the same input as both places": "inputs 1; in 0; in 0; in 0; mul 0 2; div 3 1; out 4; out 1",
	} {
		x := must(t, text)
		d := dice(len(text))
		for range 5 {
			at := d.point(x.Inputs)
			for i := range at {
				if len(at[i].Num) == 0 {
					at[i] = num("-3/7")
				}
			}
			if !wantPlain(t, x, at, append(d.points(2, len(x.Outs)), units(len(x.Outs))...), append(d.points(2, x.Inputs), units(x.Inputs)...)) {
				t.Errorf("%s: not answered at %s", what, row(at))
			}
		}
	}
}

// P7.1 to P7.4: what is not live is 0, and is no pole.
func TestNotLive(t *testing.T) {
	x := must(t, "inputs 1; const 0; in 0; div 1 0; pow 0 -1; mul 2 3; mul 1 1; neg 5; out 5")
	at := nums("3")
	l, place, e := sweep.Nodes(x, at)
	wantRow(t, "Nodes", l, place, e, "0 3 0 0 0 9 0")
	l, place, e = sweep.Tangents(x, at, nums("1"))
	wantRow(t, "Tangents", l, place, e, "0 1 0 0 0 6 0")
	l, place, e = sweep.Adjoints(x, at, nums("1"))
	wantRow(t, "Adjoints", l, place, e, "0 6 0 0 0 1 0")
	wantPole(t, x, at, fault{})
	x.Outs = []int{5, 4}
	wantPole(t, x, at, fault{2, api.ErrPole})
	x.Outs = []int{3, 5}
	wantPole(t, x, at, fault{3, api.ErrPole})
	// An input that stands at dead nodes alone may be moved, and gets nothing.
	x = must(t, "inputs 2; in 0; in 1; mul 0 0; mul 0 1; out 2")
	l, place, e = sweep.Nodes(x, nums("3 4"))
	wantRow(t, "Nodes", l, place, e, "3 0 9 0")
	l, place, e = sweep.Tangents(x, nums("3 4"), nums("1 1"))
	wantRow(t, "Tangents", l, place, e, "1 0 6 0")
	d, place, e := sweep.Reverse(x, nums("3 4"), lists("1"))
	wantRows(t, "Reverse", d, place, e, "6 0")
}

// P7.3, P7.4: weights and directions of zeros answer zeros; they hide no pole.
func TestZeros(t *testing.T) {
	x := example()
	d, place, e := sweep.Forward(x, nums("6 2"), lists("0 0"))
	wantRows(t, "Forward", d, place, e, "0 0")
	d, place, e = sweep.Reverse(x, nums("6 2"), lists("0 0"))
	wantRows(t, "Reverse", d, place, e, "0 0")
	l, place, e := sweep.Adjoints(x, nums("6 2"), nums("0 0"))
	wantRow(t, "Adjoints", l, place, e, "0 0 0 0")
	l, place, e = sweep.Tangents(x, nums("6 2"), nums("0 0"))
	wantRow(t, "Tangents", l, place, e, "0 0 0 0")
	d, place, e = sweep.Second(x, nums("6 2"), nums("0 0"), lists("0 0", "1 1"))
	wantRows(t, "Second", d, place, e, "0 0", "0 0")
	d, place, e = sweep.Second(x, nums("6 2"), nums("1 1"), lists("0 0"))
	wantRows(t, "Second", d, place, e, "0 0")
	for _, w := range []string{"1 0", "0 0"} {
		wantFaults(t, x, nums("6 0"), lists(w), lists("0 0"))
		if d, place, e := sweep.Reverse(x, nums("6 0"), lists(w)); place != 3 || e != api.ErrPole || len(d) > 0 {
			t.Errorf("Reverse of weights %s at a pole: %s, %d, %d", w, rows(d), place, e)
		}
		if _, place, e := sweep.Second(x, nums("6 0"), nums(w), nil); place != 3 || e != api.ErrPole {
			t.Errorf("Second of weights %s at a pole: %d, %d", w, place, e)
		}
	}
}

// P7.2, P7.3: tapes without inputs.
func TestNoInputs(t *testing.T) {
	x := must(t, "inputs 0; const 3; pow 0 2; out 1")
	l, place, e := sweep.Nodes(x, nil)
	wantRow(t, "Nodes", l, place, e, "3 9")
	l, place, e = sweep.Tangents(x, nil, nil)
	wantRow(t, "Tangents", l, place, e, "0 0")
	d, place, e := sweep.Forward(x, []api.Rat{}, [][]api.Rat{nil, {}})
	wantRows(t, "Forward", d, place, e, "0", "0")
	d, place, e = sweep.Reverse(x, nil, lists("2"))
	wantRows(t, "Reverse", d, place, e, "")
	l, place, e = sweep.Adjoints(x, nil, nums("2"))
	wantRow(t, "Adjoints", l, place, e, "12 2")
	d, place, e = sweep.Second(x, nil, nums("2"), [][]api.Rat{nil})
	wantRows(t, "Second", d, place, e, "")
	if _, place, e := sweep.Forward(x, nil, lists("1")); place != 0 || e != api.ErrSeeds {
		t.Errorf("a direction of no inputs: %d, %d", place, e)
	}
}

// P7.1 to P7.4: a tape of as many nodes, inputs and outputs as there may be.
func TestFull(t *testing.T) {
	x := api.Tape{Inputs: api.MaxInputs}
	for i := range api.MaxInputs {
		x.Ops = append(x.Ops, in(i))
	}
	for i := api.MaxInputs; i < api.MaxNodes; i++ {
		x.Ops = append(x.Ops, neg(i-api.MaxInputs))
	}
	for i := range api.MaxOutputs {
		x.Outs = append(x.Outs, api.MaxNodes-1-i)
	}
	var at []api.Rat
	for i := range api.MaxInputs {
		at = append(at, num(fmt.Sprint(i)))
	}
	d, place, e := sweep.Forward(x, at, units(64))
	f, q, g := sweep.Reverse(x, at, units(64))
	if place != 0 || q != 0 || e != api.OK || g != api.OK || len(d) != 64 || len(f) != 64 {
		t.Fatalf("Forward: %d, %d; Reverse: %d, %d", place, e, q, g)
	}
	for i := range 64 {
		for j := range 64 {
			// node 2047 - i is 31 negatives of input 63 - i
			want := "0"
			if i+j == 63 {
				want = "-1"
			}
			if show(d[j][i]) != want || show(f[i][j]) != want {
				t.Fatalf("output %d by input %d: %s, %s", i, j, show(d[j][i]), show(f[i][j]))
			}
		}
	}
	s, place, e := sweep.Second(x, at, at, units(64))
	if place != 0 || e != api.OK || len(s) != 64 || len(s[63]) != 64 || show(s[63][63]) != "0" {
		t.Errorf("Second: %d, %d", place, e)
	}
}
