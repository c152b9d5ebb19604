package tape_test

import (
	"slices"
	"testing"

	"slope/api"
	"slope/tape"
)

// hangs tells whether a node hangs on another one.
func hangs(t api.Tape, n, on int) bool {
	return n == on || slices.ContainsFunc(operandsOf(t.Ops[n]), func(k int) bool { return hangs(t, k, on) })
}

// deep is how deep a node is.
func deep(t api.Tape, n int) int {
	most := 0
	for _, k := range operandsOf(t.Ops[n]) {
		most = max(most, 1+deep(t, k))
	}
	return most
}

// wantLists fails if Live, Uses or Depth answer something else.
func wantLists(t *testing.T, x api.Tape, live []bool, uses, depth []int) {
	t.Helper()
	if l, e := tape.Live(x); e != api.OK || !slices.Equal(l, live) {
		t.Errorf("Live: %v, %d, want %v: %s", l, e, live, show(x))
	}
	if l, e := tape.Uses(x); e != api.OK || !slices.Equal(l, uses) {
		t.Errorf("Uses: %v, %d, want %v: %s", l, e, uses, show(x))
	}
	if l, e := tape.Depth(x); e != api.OK || !slices.Equal(l, depth) {
		t.Errorf("Depth: %v, %d, want %v: %s", l, e, depth, show(x))
	}
}

// P5.2: the chapter's example 2, and small ones.
func TestLiveExamples(t *testing.T) {
	wantLists(t, example(), []bool{true, true, true, true, true, false, false}, []int{3, 2, 1, 1, 2, 0, 0}, []int{0, 0, 1, 1, 2, 1, 0})
	wantLists(t, nodes(t, "inputs 1; in 0; mul 0 0; out 1"), []bool{true, true}, []int{2, 1}, []int{0, 1})
	wantLists(t, nodes(t, "inputs 1; in 0; out 0; out 0; out 0"), []bool{true}, []int{3}, []int{0})
	wantLists(t, nodes(t, "inputs 1; in 0; neg 0; neg 1; const 1; add 3 2; out 1"), []bool{true, true, false, false, false}, []int{1, 2, 1, 1, 0}, []int{0, 1, 2, 0, 3})
	wantLists(t, nodes(t, "inputs 2; in 0; in 0; pow 0 0; sub 1 2; out 3"), []bool{true, true, true, true}, []int{1, 1, 1, 1}, []int{0, 0, 1, 2})
}

// P5.2: a chain of as many nodes as there may be, and one that no output hangs on.
func TestLiveLong(t *testing.T) {
	x := api.Tape{Inputs: 1, Ops: []api.Op{in(0)}}
	for i := range api.MaxNodes - 1 {
		x.Ops = append(x.Ops, two(api.OpMul, i, i))
	}
	for _, out := range []int{0, 1, 1000, api.MaxNodes - 1} {
		x.Outs = []int{out}
		live, uses, depth := make([]bool, api.MaxNodes), make([]int, api.MaxNodes), make([]int, api.MaxNodes)
		for i := range live {
			live[i], uses[i], depth[i] = i <= out, 2, i
		}
		uses[api.MaxNodes-1] = 0
		uses[out]++
		wantLists(t, x, live, uses, depth)
	}
}

// P5.2: over tapes at random, by the words of the chapter.
func TestLivePlain(t *testing.T) {
	t.Parallel()
	d := dice(2)
	for range 2000 {
		x := d.tape(12)
		live, uses, depth := make([]bool, len(x.Ops)), make([]int, len(x.Ops)), make([]int, len(x.Ops))
		for n := range x.Ops {
			live[n] = slices.ContainsFunc(x.Outs, func(out int) bool { return hangs(x, out, n) })
			depth[n] = deep(x, n)
			for _, op := range x.Ops {
				for _, k := range operandsOf(op) {
					if k == n {
						uses[n]++
					}
				}
			}
			for _, out := range x.Outs {
				if out == n {
					uses[n]++
				}
			}
		}
		wantLists(t, x, live, uses, depth)
	}
}
