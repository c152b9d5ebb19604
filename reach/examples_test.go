package reach_test

import (
	"fmt"
	"slices"
	"strings"
	"testing"

	"slope/api"
	"slope/bitset"
	"slope/reach"
	"slope/sparse"
)

// sets is a table as lists of its elements.
func sets(t *testing.T, what string, l api.Table, place int, e api.Errno) string {
	t.Helper()
	if place != 0 || e != api.OK || !bitset.MayTable(l) {
		t.Errorf("%s: %v, place %d, error %d", what, l, place, e)
	}
	var z []string
	for _, s := range l.Sets {
		z = append(z, fmt.Sprint(bitset.Elements(s)))
	}
	return fmt.Sprint(l.Size, ": ", strings.Join(z, " "))
}

// places is a pattern as a list of its places.
func places(t *testing.T, what string, p api.Pattern, place int, e api.Errno) string {
	t.Helper()
	rs, cs, wrong := sparse.Places(p)
	if place != 0 || e != api.OK || wrong != api.OK {
		t.Errorf("%s: %v, place %d, error %d", what, p, place, e)
	}
	var z []string
	for i := range rs {
		z = append(z, fmt.Sprintf("(%d,%d)", rs[i], cs[i]))
	}
	return fmt.Sprintf("%d by %d: %s", p.Rows, p.Width, strings.Join(z, " "))
}

// wantTexts fails if texts are not these.
func wantTexts(t *testing.T, what string, got, want string) {
	t.Helper()
	if got != want {
		t.Errorf("%s: %s, want %s", what, got, want)
	}
}

// wantJacobian fails if a tape's is not this.
func wantJacobian(t *testing.T, x api.Tape, want string) {
	t.Helper()
	p, place, e := reach.Jacobian(x)
	wantTexts(t, "Jacobian of "+showTape(x), places(t, "Jacobian", p, place, e), want)
}

// wantHessian fails if a tape's is not this.
func wantHessian(t *testing.T, x api.Tape, want string) {
	t.Helper()
	p, place, e := reach.Hessian(x)
	wantTexts(t, "Hessian of "+showTape(x), places(t, "Hessian", p, place, e), want)
}

// wantDegree fails if a tape's is not this.
func wantDegree(t *testing.T, x api.Tape, want ...int) {
	t.Helper()
	d, place, e := reach.Degree(x)
	if place != 0 || e != api.OK || !slices.Equal(d, want) {
		t.Errorf("Degree of %s: %v, place %d, error %d, want %v", showTape(x), d, place, e, want)
	}
}

// wantLinear fails if a tape's is not this.
func wantLinear(t *testing.T, x api.Tape, want ...bool) {
	t.Helper()
	l, place, e := reach.Linear(x)
	if place != 0 || e != api.OK || !slices.Equal(l, want) {
		t.Errorf("Linear of %s: %v, place %d, error %d, want %v", showTape(x), l, place, e, want)
	}
}

// wantWay fails if a way is not this, or there is an error.
func wantWay(t *testing.T, x api.Tape, output, input int, want ...int) {
	t.Helper()
	l, place, e := reach.Way(x, output, input)
	if place != 0 || e != api.OK || !slices.Equal(l, want) {
		t.Errorf("Way(%d, %d) of %s: %v, place %d, error %d, want %v", output, input, showTape(x), l, place, e, want)
	}
}

// wantBend fails if a node is not this, or there is an error.
func wantBend(t *testing.T, x api.Tape, j, k int, n int, is bool) {
	t.Helper()
	m, found, place, e := reach.Bend(x, j, k)
	if m != n || found != is || place != 0 || e != api.OK {
		t.Errorf("Bend(%d, %d) of %s: %d, %v, place %d, error %d, want %d, %v", j, k, showTape(x), m, found, place, e, n, is)
	}
}

// with is a tape with other outputs.
func with(x api.Tape, outs ...int) api.Tape {
	x.Outs = outs
	return x
}

// The chapter's examples, 1.
func TestExamplePatterns(t *testing.T) {
	x := example()
	l, place, e := reach.Inputs(x)
	wantTexts(t, "Inputs", sets(t, "Inputs", l, place, e), "3: [0] [1] [2] [0 1] [0 1 2] [0 2]")
	wantJacobian(t, x, "2 by 3: (0,0) (0,1) (0,2) (1,0) (1,2)")
	wantHessian(t, x, "3 by 3: (0,1) (0,2) (1,0) (2,0) (2,2)")
	l, place, e = reach.Joins(x)
	wantTexts(t, "Joins", sets(t, "Joins", l, place, e), "3: [1 2] [0] [0 2]")
}

// The chapter's examples, 2.
func TestExampleShown(t *testing.T) {
	x := example()
	wantWay(t, x, 0, 1, 1, 3, 4)
	wantWay(t, x, 1, 1)
	if l, place, e := reach.Way(x, 2, 0); len(l) > 0 || place != 0 || e != api.ErrArg {
		t.Errorf("Way(2, 0): %v, place %d, error %d", l, place, e)
	}
	wantBend(t, x, 2, 2, 5, true)
	wantBend(t, x, 1, 1, 0, false)
}

// The chapter's examples, 3.
func TestExampleDegrees(t *testing.T) {
	x := example()
	wantDegree(t, x, 1, 1, 1, 2, 2, -1)
	wantLinear(t, x, false, false)
	wantLinear(t, with(x, 2, 3), true, false)
}

// The chapter's examples, 4.
func TestExampleFlat(t *testing.T) {
	for _, c := range []struct {
		text    string
		hessian string
		linear  bool
		degree  []int
	}{
		{"inputs 1; in 0; pow 0 0; out 1", "", true, []int{1, 0}},
		{"inputs 1; in 0; sub 0 0; out 1", "", true, []int{1, 1}},
		{"inputs 1; in 0; mul 0 0; out 1", "(0,0)", false, []int{1, 2}},
		{"inputs 1; in 0; const 5; mul 0 1; out 2", "", true, []int{1, 0, 1}},
		{"inputs 1; in 0; const 5; mul 1 0; out 2", "", true, []int{1, 0, 1}},
	} {
		x := must(t, c.text)
		wantJacobian(t, x, "1 by 1: (0,0)")
		wantHessian(t, x, "1 by 1: "+c.hessian)
		wantLinear(t, x, c.linear)
		wantDegree(t, x, c.degree...)
	}
}

// The chapter's examples, 5: a node that is not live bends for nobody.
func TestExampleNotLive(t *testing.T) {
	x := with(example(), 4)
	wantHessian(t, x, "3 by 3: (0,1) (1,0)")
	wantBend(t, x, 2, 2, 0, false)
	wantBend(t, x, 0, 2, 0, false)
	wantBend(t, x, 1, 0, 3, true)
	// it hangs on inputs all the same, and has its degree
	l, place, e := reach.Inputs(x)
	wantTexts(t, "Inputs", sets(t, "Inputs", l, place, e), "3: [0] [1] [2] [0 1] [0 1 2] [0 2]")
	wantDegree(t, x, 1, 1, 1, 2, 2, -1)
}

// P10.1, P10.2: tapes without inputs, inputs at no node and at two, outputs that are inputs or constants, one node as two outputs.
func TestEdges(t *testing.T) {
	none := must(t, "inputs 0; const 2; mul 0 0; div 1 0; pow 2 -3; out 3; out 0")
	wantJacobian(t, none, "2 by 0: ")
	wantHessian(t, none, "0 by 0: ")
	wantDegree(t, none, 0, 0, 0, 0)
	wantLinear(t, none, true, true)
	l, place, e := reach.Inputs(none)
	wantTexts(t, "Inputs", sets(t, "Inputs", l, place, e), "0: [] [] [] []")
	l, place, e = reach.Joins(none)
	wantTexts(t, "Joins", sets(t, "Joins", l, place, e), "0: ")

	nowhere := must(t, "inputs 3; in 1; const 2; mul 0 1; out 2; out 2; out 1; out 0")
	wantJacobian(t, nowhere, "4 by 3: (0,1) (1,1) (3,1)")
	wantHessian(t, nowhere, "3 by 3: ")
	wantLinear(t, nowhere, true, true, true, true)
	wantWay(t, nowhere, 0, 0)
	wantWay(t, nowhere, 1, 1, 0, 2)
	wantWay(t, nowhere, 2, 1)
	wantWay(t, nowhere, 3, 1, 0)
	l, place, e = reach.Joins(nowhere)
	wantTexts(t, "Joins", sets(t, "Joins", l, place, e), "3: [] [] []")

	twice := must(t, "inputs 2; in 1; in 1; mul 0 1; out 2")
	wantJacobian(t, twice, "1 by 2: (0,1)")
	wantHessian(t, twice, "2 by 2: (1,1)")
	wantWay(t, twice, 0, 1, 0, 2)
	wantBend(t, twice, 1, 1, 2, true)
	wantBend(t, twice, 0, 1, 0, false)
}

// P10.2, P10.4: each kind over nodes that hang on inputs and on none, and powers at their edges.
func TestKinds(t *testing.T) {
	for _, c := range []struct {
		node    string
		hessian string
		degree  int
	}{
		{"add 0 1", "", 1}, {"sub 0 1", "", 1}, {"sub 0 0", "", 1}, {"neg 0", "", 1}, {"add 2 2", "", 0}, {"neg 2", "", 0},
		{"mul 0 1", "(0,1) (1,0)", 2}, {"mul 1 0", "(0,1) (1,0)", 2}, {"mul 0 0", "(0,0)", 2}, {"mul 0 2", "", 1}, {"mul 2 0", "", 1}, {"mul 2 2", "", 0},
		{"div 0 1", "(0,1) (1,0) (1,1)", -1}, {"div 1 0", "(0,0) (0,1) (1,0)", -1}, {"div 0 0", "(0,0)", -1}, {"div 0 2", "", 1}, {"div 2 0", "(0,0)", -1}, {"div 2 2", "", 0},
		{"pow 0 0", "", 0}, {"pow 0 1", "", 1}, {"pow 0 2", "(0,0)", 2}, {"pow 0 -1", "(0,0)", -1}, {"pow 0 1024", "(0,0)", 1024}, {"pow 0 -1024", "(0,0)", -1},
		{"pow 2 0", "", 0}, {"pow 2 1", "", 0}, {"pow 2 2", "", 0}, {"pow 2 -1", "", 0}, {"pow 2 1024", "", 0}, {"pow 2 -1024", "", 0},
	} {
		x := must(t, "inputs 2; in 0; in 1; const 3; "+c.node+"; out 3")
		wantHessian(t, x, "2 by 2: "+c.hessian)
		wantDegree(t, x, 1, 1, 0, c.degree)
		wantLinear(t, x, c.hessian == "")
		// an operation behind it does not make it straight again
		wantLinear(t, must(t, "inputs 2; in 0; in 1; const 3; "+c.node+"; neg 3; sub 4 4; out 5"), c.hessian == "")
	}
}

// P10.4: what is no polynomial stays none, but for power 0; what has power 0 hangs on its inputs all the same.
func TestDegreeNone(t *testing.T) {
	head := "inputs 1; in 0; const 3; pow 0 -1; pow 2 0; "
	for _, c := range []struct {
		node   string
		degree int
	}{
		{"add 0 2", -1}, {"add 2 0", -1}, {"sub 1 2", -1}, {"sub 2 1", -1}, {"mul 2 1", -1}, {"mul 1 2", -1}, {"mul 2 2", -1}, {"neg 2", -1}, {"div 2 1", -1}, {"div 1 2", -1}, {"pow 2 1", -1}, {"pow 2 3", -1}, {"pow 2 -1", -1}, {"pow 2 0", 0},
		{"div 0 3", -1}, {"div 1 3", -1}, {"pow 3 -1", -1}, {"pow 3 5", 0}, {"mul 3 3", 0}, {"mul 3 0", 1}, {"div 3 1", 0}, {"add 3 0", 1},
	} {
		wantDegree(t, must(t, head+c.node+"; out 0"), 1, 0, -1, 0, c.degree)
	}
}

// P10.4: degrees at MaxWeight and above.
func TestDegreeMost(t *testing.T) {
	most := 1 << 40
	// 1024 to the fourth is 2^40
	wantDegree(t, must(t, "inputs 1; in 0; pow 0 1024; pow 1 1024; pow 2 1024; pow 3 1024; pow 4 1024; mul 4 0; mul 5 6; pow 7 2; pow 4 1; add 3 4; out 5"), 1, 1<<10, 1<<20, 1<<30, most, most, most, most, most, most, most)
	// each two nodes double a degree and add 1: 3, 7, 15, ..
	x := api.Tape{Inputs: 1, Ops: []api.Op{in(0)}, Outs: []int{0}}
	want := []int{1}
	last := 0
	for k := range 39 {
		x.Ops = append(x.Ops, two(api.OpMul, last, last), two(api.OpMul, last+1, 0))
		want = append(want, 1<<(k+2)-2, 1<<(k+2)-1)
		last += 2
	}
	x.Ops = append(x.Ops, two(api.OpMul, 0, last), two(api.OpMul, last+1, 0), two(api.OpMul, last, last-1), two(api.OpAdd, last, last-2), pow(last, 1024), neg(last+1), two(api.OpMul, last-2, last-2), pow(last-2, 2))
	want = append(want, most, most, most, most-1, most, most, most-2, most-2)
	wantDegree(t, x, want...)
}

// P10.3: of several operands that hang on the input the one of the least number, whichever place it stands at; also where it is the longer way.
func TestWayLeast(t *testing.T) {
	x := must(t, "inputs 2; in 0; in 1; neg 0; neg 2; add 3 0; sub 0 3; mul 2 3; div 3 2; sub 1 3; add 8 8; in 0; add 10 3; out 4; out 5; out 6; out 7; out 8; out 9; out 11")
	for i, way := range [][]int{{0, 4}, {0, 5}, {0, 2, 6}, {0, 2, 7}, {0, 2, 3, 8}, {0, 2, 3, 8, 9}, {0, 2, 3, 11}} {
		wantWay(t, x, i, 0, way...)
	}
	for i, way := range [][]int{nil, nil, nil, nil, {1, 8}, {1, 8, 9}, nil} {
		wantWay(t, x, i, 1, way...)
	}
}

// P10.3: the least live node, though one that is not live comes ahead of it.
func TestBendLeast(t *testing.T) {
	x := must(t, "inputs 2; in 0; in 1; mul 0 1; mul 1 0; div 0 1; mul 0 0; out 5")
	wantBend(t, x, 0, 1, 0, false)
	wantBend(t, x, 0, 0, 5, true)
	wantBend(t, with(x, 4), 0, 1, 4, true)
	wantBend(t, with(x, 4), 1, 1, 4, true)
	wantBend(t, with(x, 4, 3), 0, 1, 3, true)
	wantBend(t, with(x, 4, 3), 1, 0, 3, true)
	wantBend(t, with(x, 2, 4, 3), 1, 0, 2, true)
}
