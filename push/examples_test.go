package push_test

import (
	"fmt"
	"testing"

	"slope/api"
	"slope/push"
)

// P14.2, P14.4, P14.5: the chapter's examples 1 and 2.
func TestExampleProduct(t *testing.T) {
	x, at, one := must(t, "inputs 2; in 0; in 1; mul 0 1; out 2"), nums("3 5"), nums("1")
	wantState(t, x, at, one, 3, "0 0 1 |")
	wantState(t, x, at, one, 2, "5 3 | 0,1: 1")
	wantState(t, x, at, one, 1, "5 |")
	wantState(t, x, at, one, 0, " |")
	wantHessian(t, x, at, one, "2 by 2 | 0,1: 1 1,0: 1")
	wantHessian(t, x, at, nums("2/3"), "2 by 2 | 0,1: 2/3 1,0: 2/3")
	wantGradient(t, x, at, one, "5 3")
	wantGradient(t, x, at, nums("2/3"), "10/3 2")
	wantState(t, x, at, nums("2/3"), 2, "10/3 2 | 0,1: 2/3")
}

// P14.1, P14.2: the chapter's example 3.
func TestExampleSquares(t *testing.T) {
	for _, node := range []string{"mul 0 0", "pow 0 2"} {
		x := must(t, "inputs 1; in 0; "+node+"; out 1")
		wantState(t, x, nums("7/2"), nums("1"), 1, "7 | 0,0: 2")
		wantHessian(t, x, nums("7/2"), nums("1"), "1 by 1 | 0,0: 2")
	}
	for _, nodes := range []string{"mul 0 0; mul 1 1", "mul 0 0; pow 1 2", "pow 0 2; mul 1 1", "pow 0 2; pow 1 2"} {
		x := must(t, "inputs 1; in 0; "+nodes+"; out 2")
		wantState(t, x, nums("3"), nums("1"), 2, "0 18 | 1,1: 2")
		wantState(t, x, nums("3"), nums("1"), 1, "108 | 0,0: 108")
		wantHessian(t, x, nums("3"), nums("1"), "1 by 1 | 0,0: 108")
		wantGradient(t, x, nums("3"), nums("1"), "108")
	}
}

// P14.1, P14.4: the chapter's examples 4, 5 and 6.
func TestExampleInputs(t *testing.T) {
	x, one := must(t, "inputs 2; in 0; pow 0 2; in 1; mul 1 2; out 3"), nums("1")
	wantState(t, x, nums("3 5"), one, 3, "0 5 9 | 1,2: 1")
	wantState(t, x, nums("3 5"), one, 2, "0 5 |")
	wantState(t, x, nums("3 5"), one, 1, "30 | 0,0: 10")
	wantHessian(t, x, nums("3 5"), one, "2 by 2 | 0,0: 10 0,1: 6 1,0: 6")
	wantGradient(t, x, nums("3 5"), one, "30 9")
	x = must(t, "inputs 1; in 0; in 0; mul 0 1; out 2")
	wantState(t, x, nums("5"), one, 2, "5 5 | 0,1: 1")
	wantHessian(t, x, nums("5"), one, "1 by 1 | 0,0: 2")
	wantGradient(t, x, nums("5"), one, "10")
	x = must(t, "inputs 1; in 0; sub 0 0; out 1")
	wantState(t, x, nums("5"), one, 1, "0 |")
	wantHessian(t, x, nums("5"), one, "1 by 1 |")
	wantGradient(t, x, nums("5"), one, "0")
}

// Example 4 of the whole, of DOC.md.
func TestExampleWhole(t *testing.T) {
	x, at := must(t, "inputs 2; in 0; in 1; mul 0 1; pow 2 2; add 3 0; div 2 1; out 4; out 5"), nums("3 1/2")
	wantHessian(t, x, at, nums("1 0"), "2 by 2 | 0,0: 1/2 0,1: 6 1,0: 6 1,1: 18")
	wantHessian(t, x, at, nums("0 1"), "2 by 2 | 0,0: 0 0,1: 0 1,0: 0 1,1: 0")
	wantGradient(t, x, at, nums("1 0"), "5/2 9")
	wantGradient(t, x, at, nums("0 1"), "1 0")
	wantFault(t, x, nums("3 0"), nums("1 0"), 6, fault{5, api.ErrPole}, fault{5, api.ErrPole})
	x.Outs = []int{4}
	wantGradient(t, x, nums("3 0"), nums("1"), "1 0")
	wantHessian(t, x, nums("3 0"), nums("1"), "2 by 2 | 0,0: 0 0,1: 0 1,0: 0 1,1: 18")
}

// P14.1: the partials and second partials of each kind, of nodes that are not the same and of one node at both places.
func TestKinds(t *testing.T) {
	for _, c := range []struct{ node, want string }{
		{"add 0 1", "1 1 |"}, {"sub 0 1", "1 -1 |"}, {"sub 1 0", "-1 1 |"}, {"mul 0 1", "2 6 | 0,1: 1"}, {"mul 1 0", "2 6 | 0,1: 1"},
		{"div 0 1", "1/2 -3/2 | 0,1: -1/4 1,1: 3/2"}, {"div 1 0", "-1/18 1/6 | 0,0: 1/54 0,1: -1/36"}, {"neg 1", "0 -1 |"},
		{"add 0 0", "2 0 |"}, {"sub 0 0", "0 0 |"}, {"mul 0 0", "12 0 | 0,0: 2"}, {"div 0 0", "0 0 |"},
		{"pow 0 0", "0 0 |"}, {"pow 0 1", "1 0 |"}, {"pow 0 2", "12 0 | 0,0: 2"}, {"pow 0 3", "108 0 | 0,0: 36"}, {"pow 1 -1", "0 -1/4 | 1,1: 1/4"}, {"pow 1 -2", "0 -1/4 | 1,1: 3/8"},
		{"in 1", "0 0 |"}, {"const 7", "0 0 |"},
	} {
		// with a self edge of the node pushed on: of the node's square
		x := must(t, "inputs 2; in 0; in 1; "+c.node+"; out 2")
		wantState(t, x, nums("6 2"), nums("1"), 2, c.want)
		for _, more := range []string{"mul 2 2; out 3", "pow 2 -1; out 3", "mul 2 0; mul 3 1; out 4", "div 0 2; out 3", "div 2 1; mul 2 3; out 4; out 2"} {
			x = must(t, "inputs 2; in 0; in 1; "+c.node+"; "+more)
			if answered := wantPlain(t, x, nums("6 2"), nums("1 2")[:len(x.Outs)]); !answered && (c.node != "sub 0 0" || more[:3] == "mul") {
				t.Errorf("%s; %s: refused", c.node, more)
			}
		}
	}
}

// P14.1, P14.4: every power that has a rule of its own, and the greatest ones, at 0 too.
func TestPowers(t *testing.T) {
	t.Parallel()
	for _, n := range []int{-1024, -1023, -1022, -3, -2, -1, 0, 1, 2, 3, 1022, 1023, 1024} {
		for _, at := range []string{"0", "1", "-1", "2", "-2/3", "1/2", "-5"} {
			x := api.Tape{Inputs: 1, Ops: []api.Op{in(0), pow(0, n)}, Outs: []int{1}}
			answered := wantPlain(t, x, nums(at), nums("-2/3"))
			if at == "0" && n < 0 {
				wantFault(t, x, nums(at), nums("1"), 0, fault{1, api.ErrPole}, fault{1, api.ErrPole})
			} else if !answered && (at == "0" || at == "1" || at == "-1") {
				t.Errorf("power %d at %s: refused", n, at)
			}
		}
	}
	x := api.Tape{Inputs: 1, Ops: []api.Op{in(0), pow(0, -1024)}, Outs: []int{1}}
	wantHessian(t, x, nums("-1"), nums("1"), fmt.Sprint("1 by 1 | 0,0: ", 1024*1025))
	wantGradient(t, x, nums("-1"), nums("1"), "1024")
	x.Ops[1].N = 1024
	wantHessian(t, x, nums("-1"), nums("1"), fmt.Sprint("1 by 1 | 0,0: ", 1024*1023))
	wantGradient(t, x, nums("-1"), nums("1"), "-1024")
	for n, want := range map[int]string{0: "1 by 1 |", 1: "1 by 1 |", 2: "1 by 1 | 0,0: 2", 3: "1 by 1 | 0,0: 0", 1024: "1 by 1 | 0,0: 0"} {
		x.Ops[1].N = n
		wantHessian(t, x, nums("0"), nums("1"), want)
	}
}

// P14.1 to P14.5: shapes that the document names, at points that are no poles.
func TestEdges(t *testing.T) {
	for what, text := range map[string]string{
		"one node, an input":            "inputs 1; in 0; out 0",
		"one node, a constant":          "inputs 1; const 5/3; out 0",
		"no inputs":                     "inputs 0; const 5/3; pow 0 -3; mul 0 1; div 1 2; out 3; out 0",
		"both places, sum":              "inputs 1; in 0; add 0 0; mul 1 1; out 2",
		"both places, difference":       "inputs 1; in 0; sub 0 0; mul 1 0; out 2",
		"both places, product":          "inputs 1; in 0; mul 0 0; mul 1 0; out 2",
		"both places, quotient":         "inputs 1; in 0; div 0 0; mul 1 0; out 2",
		"a node at both places":         "inputs 2; in 0; in 1; mul 0 1; mul 2 2; div 3 3; out 4; out 3",
		"an input at two nodes":         "inputs 1; in 0; in 0; div 0 1; mul 0 2; out 3",
		"an input at three nodes":       "inputs 2; in 1; in 1; mul 0 1; in 1; mul 2 3; out 4; out 3",
		"two inputs at two nodes":       "inputs 2; in 1; in 0; mul 0 1; in 1; in 0; div 3 4; mul 2 5; pow 6 3; out 7",
		"an input at none":              "inputs 3; in 1; mul 0 0; out 1",
		"an input whose node is dead":   "inputs 2; in 0; in 1; mul 0 0; out 2",
		"one output twice":              "inputs 1; in 0; mul 0 0; out 1; out 1; out 0; out 1",
		"an output is an input":         "inputs 2; in 0; in 1; mul 0 1; out 1; out 2",
		"an output is a constant":       "inputs 1; const 7/3; in 0; mul 0 1; out 0; out 2",
		"a constant's edges":            "inputs 1; in 0; const 3; mul 0 1; pow 2 2; mul 3 1; out 4",
		"a constant above":              "inputs 1; in 0; mul 0 0; const 3; div 1 2; pow 3 2; out 4",
		"an input above":                "inputs 3; in 0; pow 0 2; in 1; mul 1 2; in 2; mul 3 4; mul 5 3; out 6",
		"an input above all":            "inputs 2; in 0; pow 0 -2; neg 1; in 1; div 2 3; mul 4 1; pow 5 2; out 6",
		"inputs above, joined":          "inputs 2; in 0; pow 0 3; in 1; in 1; mul 2 3; div 1 4; mul 5 5; out 6; out 2",
		"an edge with an operand":       "inputs 2; in 0; in 1; mul 0 1; mul 2 0; mul 3 2; mul 4 1; out 5",
		"edges that come to 0":          "inputs 2; in 0; in 1; mul 0 1; mul 1 0; sub 2 3; neg 2; add 5 3; add 6 4; out 7",
		"edges of both operands, to 0":  "inputs 2; in 0; in 1; add 0 1; pow 2 2; sub 0 1; pow 4 2; sub 3 5; out 6",
		"adjoints that come to 0":       "inputs 1; in 0; mul 0 0; neg 1; add 1 2; mul 3 0; out 4",
		"an adjoint of 0 with an edge":  "inputs 1; in 0; mul 0 0; const 9; sub 1 2; pow 3 2; out 4",
		"dead nodes":                    "inputs 1; const 0; in 0; div 1 0; pow 0 -1; mul 2 3; mul 1 1; neg 5; add 5 5; out 7",
		"dead inputs between":           "inputs 2; in 0; in 1; mul 0 1; in 0; pow 0 3; in 1; mul 4 5; out 6",
		"all kinds":                     "inputs 2; in 0; in 1; const 2/3; add 0 2; sub 3 1; mul 4 0; div 5 1; neg 6; pow 7 3; out 8",
		"a factor 0":                    "inputs 2; in 0; in 1; const 0; mul 0 2; mul 3 1; div 4 1; out 5",
		"an output under another":       "inputs 2; in 0; in 1; div 0 1; pow 2 -2; neg 3; sub 4 2; out 5; out 2; out 3",
		"a sum of squares, squared":     "inputs 3; in 0; in 1; in 2; mul 0 0; mul 1 1; mul 2 2; add 3 4; add 6 5; pow 7 2; out 8",
		"a product of many":             "inputs 4; in 0; in 1; in 2; in 3; mul 0 1; mul 4 2; mul 5 3; mul 6 4; out 7",
		"the same input as both places": "inputs 1; in 0; in 0; in 0; mul 0 2; div 3 1; out 4; out 1",
	} {
		x := must(t, text)
		d := dice(len(text))
		for range 6 {
			at := d.point(x.Inputs)
			for i := range at {
				if len(at[i].Num) == 0 {
					at[i] = num("-3/7")
				}
			}
			if !wantPlain(t, x, at, d.point(len(x.Outs))) {
				t.Errorf("%s: refused at %s", what, row(at))
			}
		}
	}
}

// P14.2: nodes that are not live, ahead of and behind upto: 0, no pole, without edges.
func TestNotLive(t *testing.T) {
	x := must(t, "inputs 1; const 0; in 0; div 1 0; pow 0 -1; mul 2 3; mul 1 1; neg 5; mul 5 1; div 1 0; mul 7 7; out 7")
	at, w := nums("3"), nums("2")
	wantState(t, x, at, w, 10, "0 0 0 0 0 0 0 2 0 0 |")
	wantState(t, x, at, w, 8, "0 0 0 0 0 0 0 2 |")
	wantState(t, x, at, w, 7, "0 18 0 0 0 6 0 | 1,5: 2")
	wantState(t, x, at, w, 5, "0 54 0 0 0 | 1,1: 36")
	wantState(t, x, at, w, 1, "0 |")
	wantHessian(t, x, at, w, "1 by 1 | 0,0: 36")
	wantGradient(t, x, at, w, "54")
	// An input at dead nodes alone gets nothing.
	x = must(t, "inputs 2; in 0; in 1; mul 0 0; mul 0 1; out 2")
	wantState(t, x, nums("3 4"), nums("1"), 3, "0 0 1 |")
	wantState(t, x, nums("3 4"), nums("1"), 2, "6 0 | 0,0: 2")
	wantHessian(t, x, nums("3 4"), nums("1"), "2 by 2 | 0,0: 2")
	wantGradient(t, x, nums("3 4"), nums("1"), "6 0")
}

// P14.1: weights that are 0, and weights that cancel one another, hide no pole and leave the pattern as it is.
func TestWeights(t *testing.T) {
	x := must(t, "inputs 2; in 0; in 1; div 0 1; mul 0 1; out 2; out 3; out 2")
	for _, w := range []string{"0 0 0", "1 0 -1", "-2/3 0 2/3"} {
		wantState(t, x, nums("6 2"), nums(w), 4, "0 0 0 0 |")
		wantState(t, x, nums("6 2"), nums(w), 2, "0 0 |")
		wantHessian(t, x, nums("6 2"), nums(w), "2 by 2 | 0,1: 0 1,0: 0 1,1: 0")
		wantGradient(t, x, nums("6 2"), nums(w), "0 0")
		wantFault(t, x, nums("6 0"), nums(w), 4, fault{2, api.ErrPole}, fault{2, api.ErrPole})
	}
	wantState(t, x, nums("6 2"), nums("1 5 1/2"), 4, "0 0 3/2 5 |")
	wantState(t, x, nums("6 2"), nums("1 5 1/2"), 3, "10 30 3/2 | 0,1: 5")
	wantHessian(t, x, nums("6 2"), nums("1 5 1/2"), "2 by 2 | 0,1: 37/8 1,0: 37/8 1,1: 9/4")
	// Two outputs whose sum has nothing but 0 at the second node.
	x = must(t, "inputs 1; in 0; mul 0 0; out 1; out 1")
	wantState(t, x, nums("5"), nums("7 -7"), 1, "0 |")
	wantHessian(t, x, nums("5"), nums("7 -7"), "1 by 1 | 0,0: 0")
	wantHessian(t, x, nums("5"), nums("7 -6"), "1 by 1 | 0,0: 2")
}

// P14.2, P14.4, P14.5: no inputs.
func TestNoInputs(t *testing.T) {
	x := must(t, "inputs 0; const 3; pow 0 2; out 1")
	wantState(t, x, nil, nums("2"), 2, "0 2 |")
	wantState(t, x, nil, nums("2"), 1, "12 | 0,0: 4")
	wantState(t, x, nil, nums("2"), 0, " |")
	wantHessian(t, x, nil, nums("2"), "0 by 0 |")
	wantGradient(t, x, nil, nums("2"), "")
	wantFault(t, api.Tape{}, nil, nil, 0, fault{-1, api.ErrOutputs}, fault{-1, api.ErrOutputs})
}

// P14.1 to P14.5: a tape of as many nodes, inputs and outputs as there may be: products of neighbours and long chains.
func TestFull(t *testing.T) {
	t.Parallel()
	x := api.Tape{Inputs: api.MaxInputs}
	var at, w []api.Rat
	for i := range api.MaxInputs {
		x.Ops = append(x.Ops, in(i))
		at = append(at, num(fmt.Sprint(i)))
		w = append(w, num(fmt.Sprint(100+i)))
	}
	for i := range api.MaxInputs {
		x.Ops = append(x.Ops, two(api.OpMul, i, (i+1)%64))
	}
	for len(x.Ops) < api.MaxNodes {
		x.Ops = append(x.Ops, neg(len(x.Ops)-64))
	}
	for i := range api.MaxOutputs {
		x.Outs = append(x.Outs, api.MaxNodes-64+i)
	}
	m, place, e := push.Hessian(x, at, w)
	if place != 0 || e != api.OK || len(m.Vals) != 128 {
		t.Fatalf("Hessian: %d places, place %d, error %d", len(m.Vals), place, e)
	}
	for j := range 64 {
		for i := m.P.Start[j]; i < m.P.Start[j+1]; i++ {
			// output j is x_j * x_(j+1), 30 times negated
			k := m.P.Cols[i]
			want := fmt.Sprint(100 + j)
			if (k+1)%64 == j {
				want = fmt.Sprint(100 + k)
			}
			if (j+1)%64 != k && (k+1)%64 != j || show(m.Vals[i]) != want {
				t.Errorf("(%d, %d): %s, want %s", j, k, show(m.Vals[i]), want)
			}
		}
	}
	adjoints, edges, place, e := push.State(x, at, w, api.MaxNodes)
	if place != 0 || e != api.OK || len(adjoints) != api.MaxNodes || len(edges) != 0 || show(adjoints[api.MaxNodes-1]) != "163" {
		t.Errorf("State: %d adjoints, %d edges, place %d, error %d", len(adjoints), len(edges), place, e)
	}
	_, edges, _, _ = push.State(x, at, w, 64)
	if len(edges) != 64 || edges[1].A != 0 || edges[1].B != 63 || show(edges[1].Val) != "163" {
		t.Errorf("State: %d edges, %v", len(edges), edges[1])
	}
}

// P14.1, P14.4: every node of a wide sum stands beside every other one: the square of a sum of many nodes.
func TestWide(t *testing.T) {
	t.Parallel()
	const wide = 300
	x := api.Tape{Inputs: 3}
	for i := range wide {
		x.Ops = append(x.Ops, in(i%3))
	}
	for i := 1; i < wide; i++ {
		x.Ops = append(x.Ops, two(api.OpAdd, max(i, wide+i-2)*min(i-1, 1), i))
	}
	x.Ops = append(x.Ops, pow(len(x.Ops)-1, 2))
	x.Outs = []int{len(x.Ops) - 1}
	at, w := nums("1 2 1/3"), nums("1/2")
	// 100 times the sum of the inputs, squared, and halved
	wantHessian(t, x, at, w, "3 by 3 | 0,0: 10000 0,1: 10000 0,2: 10000 1,0: 10000 1,1: 10000 1,2: 10000 2,0: 10000 2,1: 10000 2,2: 10000")
	wantGradient(t, x, at, w, "100000/3 100000/3 100000/3")
	_, edges, place, e := push.State(x, at, w, wide)
	if place != 0 || e != api.OK || len(edges) != wide*(wide+1)/2 {
		t.Fatalf("State: %d edges, place %d, error %d", len(edges), place, e)
	}
	i := 0
	for a := range wide {
		for b := a; b < wide; b++ {
			if edges[i].A != a || edges[i].B != b || show(edges[i].Val) != "1" {
				t.Fatalf("edge %d: %v", i, edges[i])
			}
			i++
		}
	}
}
