package tape_test

import (
	"math"
	"slices"
	"testing"

	"slope/api"
	"slope/tape"
)

// wantBlend fails if Blend answers something else.
func wantBlend(t *testing.T, x api.Tape, w []api.Rat, want api.Tape, e api.Errno) {
	t.Helper()
	z, got := tape.Blend(x, w)
	if got != e || show(z) != show(want) {
		t.Errorf("Blend(%s, %v): %s, %d, want %s, %d", short(show(x)), w, short(show(z)), got, short(show(want)), e)
	}
}

// P5.6: the chapter's example 4, one output, a weight 0, three outputs.
func TestBlendExamples(t *testing.T) {
	all := "inputs 2; in 0; in 1; mul 0 1; mul 1 0; add 2 3; pow 0 -2; const 3/2; "
	wantBlend(t, example(), nums("2 0"), nodes(t, all+"const 2; mul 7 4; const 0; mul 9 4; add 8 10; out 11"), api.OK)
	wantBlend(t, nodes(t, "inputs 1; in 0; out 0"), nums("0"), nodes(t, "inputs 1; in 0; const 0; mul 1 0; out 2"), api.OK)
	wantBlend(t, nodes(t, "inputs 0; const 5; neg 0; out 0; out 1; out 0"), nums("1 -1/2 1"), nodes(t, "inputs 0; const 5; neg 0; const 1; mul 2 0; const -1/2; mul 4 1; add 3 5; const 1; mul 7 0; add 6 8; out 9"), api.OK)
}

// P5.6: the errors, in their order.
func TestBlendErrors(t *testing.T) {
	none := api.Tape{}
	for _, w := range [][]api.Rat{nil, {}, nums("1"), nums("1 2 3")} {
		wantBlend(t, example(), w, none, api.ErrWeights)
	}
	for _, r := range wrongNumbers() {
		wantBlend(t, example(), []api.Rat{num("1"), r}, none, api.ErrRat)
		wantBlend(t, example(), []api.Rat{r}, none, api.ErrRat)
		wantBlend(t, example(), []api.Rat{num("1"), num("1"), r}, none, api.ErrRat)
	}
	full := api.Tape{Ops: slices.Repeat([]api.Op{constant("1")}, api.MaxNodes), Outs: []int{0}}
	wantBlend(t, full, nums("1"), none, api.ErrNodes)
	wantBlend(t, full, nums("1 1"), none, api.ErrWeights)
	wantBlend(t, full, []api.Rat{{}}, none, api.ErrRat)
}

// P5.6: as many nodes as there may be, and one more.
func TestBlendEdge(t *testing.T) {
	for _, outs := range []int{1, 2, 3, api.MaxOutputs} {
		w := slices.Repeat(nums("0"), outs)
		room := api.MaxNodes - (3*outs - 1)
		x := api.Tape{Ops: slices.Repeat([]api.Op{constant("1")}, room), Outs: make([]int, outs)}
		z, e := tape.Blend(x, w)
		if e != api.OK || len(z.Ops) != api.MaxNodes || len(z.Outs) != 1 || z.Outs[0] != api.MaxNodes-1 {
			t.Errorf("%d outputs of %d nodes: %d nodes, %v, %d", outs, room, len(z.Ops), z.Outs, e)
		}
		if _, e := tape.Check(z); e != api.OK {
			t.Errorf("%d outputs: a tape that may not be: %d", outs, e)
		}
		x.Ops = append(x.Ops, constant("2"))
		wantBlend(t, x, w, api.Tape{}, api.ErrNodes)
	}
}

// P5.6: over tapes at random, by the words of the chapter.
func TestBlendPlain(t *testing.T) {
	d := dice(4)
	for range 1000 {
		x := d.tape(10)
		w := d.point(len(x.Outs))
		want := api.Tape{Inputs: x.Inputs, Ops: slices.Clone(x.Ops)}
		for i, out := range x.Outs {
			want.Ops = append(want.Ops, api.Op{Kind: api.OpConst, C: w[i]})
			n := len(want.Ops)
			want.Ops = append(want.Ops, two(api.OpMul, n-1, out))
			if i > 0 {
				want.Ops = append(want.Ops, two(api.OpAdd, n-2, n))
			}
		}
		want.Outs = []int{len(want.Ops) - 1}
		wantBlend(t, x, w, want, api.OK)
	}
}

// wantCut fails if Cut answers something else.
func wantCut(t *testing.T, x api.Tape, upto int, want api.Tape, e api.Errno) {
	t.Helper()
	z, got := tape.Cut(x, upto)
	if got != e || show(z) != show(want) {
		t.Errorf("Cut(%s, %d): %s, %d, want %s, %d", short(show(x)), upto, short(show(z)), got, short(show(want)), e)
	}
}

// P5.7: the chapter's example 4, and the ends.
func TestCutExamples(t *testing.T) {
	wantCut(t, example(), 0, example(), api.OK)
	wantCut(t, example(), 1, nodes(t, "inputs 3; in 0; in 2; mul 0 1; mul 1 0; add 2 3; pow 0 -2; const 3/2; out 4; out 4"), api.OK)
	wantCut(t, example(), 4, nodes(t, "inputs 6; in 0; in 1; in 2; in 3; add 2 3; pow 0 -2; const 3/2; out 4; out 4"), api.OK)
	wantCut(t, example(), 7, nodes(t, "inputs 9; in 0; in 1; in 2; in 3; in 4; in 5; in 6; out 4; out 4"), api.OK)
	wantCut(t, nodes(t, "inputs 2; const 7; in 1; in 0; sub 2 1; in 1; out 3; out 0"), 2, nodes(t, "inputs 4; in 0; in 1; in 2; sub 2 1; in 3; out 3; out 0"), api.OK)
	for _, upto := range []int{math.MinInt, -1, 8, 9, math.MaxInt - 1, math.MaxInt} {
		wantCut(t, example(), upto, api.Tape{}, api.ErrArg)
	}
}

// P5.7: upto and Inputs together are MaxInputs, and one more; ErrArg comes ahead of that.
func TestCutEdge(t *testing.T) {
	for _, inputs := range []int{0, 1, 40, api.MaxInputs} {
		x := api.Tape{Inputs: inputs, Ops: slices.Repeat([]api.Op{constant("1")}, 100), Outs: []int{99}}
		if inputs > 0 {
			x.Ops[99] = in(inputs - 1)
		}
		upto := api.MaxInputs - inputs
		z, e := tape.Cut(x, upto)
		if e != api.OK || z.Inputs != api.MaxInputs || inputs > 0 && z.Ops[99].A != api.MaxInputs-1 {
			t.Errorf("inputs %d, upto %d: %d inputs, %d", inputs, upto, z.Inputs, e)
		}
		if _, e := tape.Check(z); e != api.OK {
			t.Errorf("inputs %d, upto %d: a tape that may not be: %d", inputs, upto, e)
		}
		wantCut(t, x, upto+1, api.Tape{}, api.ErrInputs)
		wantCut(t, x, 100, api.Tape{}, api.ErrInputs)
		wantCut(t, x, 101, api.Tape{}, api.ErrArg)
	}
}

// P5.7: over tapes at random, by the words of the chapter.
func TestCutPlain(t *testing.T) {
	d := dice(5)
	for range 1000 {
		x := d.tape(12)
		for upto := range len(x.Ops) + 1 {
			want := api.Tape{Inputs: upto + x.Inputs, Ops: slices.Clone(x.Ops), Outs: x.Outs}
			for i, op := range want.Ops {
				if i < upto {
					want.Ops[i] = in(i)
				} else if op.Kind == api.OpInput {
					want.Ops[i] = in(upto + op.A)
				}
			}
			wantCut(t, x, upto, want, api.OK)
		}
	}
}
