package tape_test

import (
	"fmt"
	"reflect"
	"slices"
	"testing"

	"slope/api"
	"slope/tape"
)

// call is Trim, Merge or Clean.
type call func(api.Tape) (api.Tape, []int, api.Errno)

// wantMade fails if a call makes another tape of a tape, or tells other numbers.
func wantMade(t *testing.T, what string, do call, x, want api.Tape, to []int) {
	t.Helper()
	z, l, e := do(x)
	if e != api.OK || show(z) != show(want) || !slices.Equal(l, to) {
		t.Errorf("%s: %s, %v, %d, want %s, %v", what, short(show(z)), l, e, short(show(want)), to)
	}
}

// wantItself fails if a call makes another tape of this one.
func wantItself(t *testing.T, what string, do call, x api.Tape) {
	t.Helper()
	to := make([]int, len(x.Ops))
	for i := range to {
		to[i] = i
	}
	wantMade(t, what+" of itself", do, x, x, to)
}

// P5.3, P5.4, P5.5: the chapter's example 3.
func TestMadeExamples(t *testing.T) {
	x := example()
	wantMade(t, "Trim", tape.Trim, x, nodes(t, "inputs 2; in 0; in 1; mul 0 1; mul 1 0; add 2 3; out 4; out 4"), []int{0, 1, 2, 3, 4, -1, -1})
	wantMade(t, "Merge", tape.Merge, x, nodes(t, "inputs 2; in 0; in 1; mul 0 1; add 2 2; pow 0 -2; const 3/2; out 3; out 3"), []int{0, 1, 2, 2, 3, 4, 5})
	wantMade(t, "Clean", tape.Clean, x, nodes(t, "inputs 2; in 0; in 1; mul 0 1; add 2 2; out 3; out 3"), []int{0, 1, 2, 2, 3, -1, -1})
}

// P5.3: what is gone in the midst moves what stands behind it.
func TestTrimMoves(t *testing.T) {
	x := nodes(t, "inputs 3; const 1; in 2; const 5; div 1 2; neg 0; sub 3 1; pow 5 -1; pow 5 2; out 7; out 3; out 7")
	wantMade(t, "Trim", tape.Trim, x, nodes(t, "inputs 3; in 2; const 5; div 0 1; sub 2 0; pow 3 2; out 4; out 2; out 4"), []int{-1, 0, 1, 2, -1, 3, -1, 4})
	x = nodes(t, "inputs 64; in 63; const 0; out 1")
	wantMade(t, "Trim", tape.Trim, x, nodes(t, "inputs 64; const 0; out 0"), []int{-1, 0})
}

// P5.4: which nodes are alike.
func TestMergeAlike(t *testing.T) {
	for _, c := range []struct {
		ops  string
		want string
		to   []int
	}{
		{"in 0; in 1; in 0; in 1", "in 0; in 1", []int{0, 1, 0, 1}},
		{"in 1; in 0; add 0 1; add 1 0", "in 1; in 0; add 0 1", []int{0, 1, 2, 2}},
		{"in 1; in 0; add 1 0; add 0 1", "in 1; in 0; add 0 1", []int{0, 1, 2, 2}},
		{"in 0; in 1; mul 1 0", "in 0; in 1; mul 0 1", []int{0, 1, 2}},
		{"in 0; in 1; sub 1 0; sub 0 1; sub 1 0", "in 0; in 1; sub 1 0; sub 0 1", []int{0, 1, 2, 3, 2}},
		{"in 0; in 1; div 1 0; div 0 1; div 0 1", "in 0; in 1; div 1 0; div 0 1", []int{0, 1, 2, 3, 3}},
		{"in 0; in 1; add 0 1; mul 0 1; sub 0 1; div 0 1", "in 0; in 1; add 0 1; mul 0 1; sub 0 1; div 0 1", []int{0, 1, 2, 3, 4, 5}},
		{"in 0; pow 0 2; pow 0 -2; pow 0 2; mul 0 0; pow 0 0; pow 0 1", "in 0; pow 0 2; pow 0 -2; mul 0 0; pow 0 0; pow 0 1", []int{0, 1, 2, 1, 3, 4, 5}},
		{"in 0; neg 0; neg 0; neg 1; neg 2; pow 0 1", "in 0; neg 0; neg 1; pow 0 1", []int{0, 1, 1, 2, 2, 3}},
		{"const 1; const -1; const 1; const 1/2; const 2; const 1/2; const 0; const 0; const -1", "const 1; const -1; const 1/2; const 2; const 0", []int{0, 1, 0, 2, 3, 2, 4, 4, 1}},
		{"const 4294967296; const 1; const 4294967297; const 1/4294967297; const 4294967296/4294967297", "const 4294967296; const 1; const 4294967297; const 1/4294967297; const 4294967296/4294967297", []int{0, 1, 2, 3, 4}},
		{"in 0; const 0; in 0; add 0 1; add 1 2; neg 3; neg 4; in 1; add 7 5; add 6 7", "in 0; const 0; add 0 1; neg 2; in 1; add 3 4", []int{0, 1, 0, 2, 2, 3, 3, 4, 5, 5}},
	} {
		x := nodes(t, "inputs 2; "+c.ops+"; out 0")
		x.Outs = []int{len(x.Ops) - 1, 0}
		want := nodes(t, "inputs 2; "+c.want+"; out 0")
		want.Outs = []int{c.to[len(c.to)-1], 0}
		wantMade(t, c.ops, tape.Merge, x, want, c.to)
		wantItself(t, c.ops, tape.Merge, want)
	}
}

// P5.5: what is not live doesn't keep its place in a merged tape.
func TestCleanMoves(t *testing.T) {
	x := nodes(t, "inputs 2; in 1; neg 0; in 0; in 1; neg 3; const 2; add 4 2; out 6; out 4")
	wantMade(t, "Clean", tape.Clean, x, nodes(t, "inputs 2; in 0; in 1; neg 1; add 0 2; out 3; out 2"), []int{-1, -1, 0, 1, 2, -1, 3})
	wantMade(t, "Merge", tape.Merge, x, nodes(t, "inputs 2; in 1; neg 0; in 0; const 2; add 1 2; out 4; out 1"), []int{0, 1, 2, 0, 1, 3, 4})
}

// terms are the nodes' terms as texts; the sides of + and * stand in their order as texts.
func terms(t api.Tape) []string {
	var l []string
	for _, op := range t.Ops {
		var sides []string
		for _, k := range operandsOf(op) {
			sides = append(sides, l[k])
		}
		if op.Kind == api.OpAdd || op.Kind == api.OpMul {
			slices.Sort(sides)
		}
		leaf := op
		if len(sides) > 0 {
			leaf.A, leaf.B = 0, 0
		}
		l = append(l, fmt.Sprintf("(%d %d %d %v %v)", op.Kind, leaf.A, op.N, op.C, sides))
	}
	return l
}

// outTerms are the outputs' terms.
func outTerms(t api.Tape) []string {
	all := terms(t)
	var l []string
	for _, n := range t.Outs {
		l = append(l, all[n])
	}
	return l
}

// plainTrim is the chapter's Trim.
func plainTrim(t api.Tape) (api.Tape, []int) {
	z := api.Tape{Inputs: t.Inputs}
	var to []int
	for n, op := range t.Ops {
		if !slices.ContainsFunc(t.Outs, func(out int) bool { return hangs(t, out, n) }) {
			to = append(to, -1)
			continue
		}
		to = append(to, len(z.Ops))
		z.Ops = append(z.Ops, over2(op, to))
	}
	for _, n := range t.Outs {
		z.Outs = append(z.Outs, to[n])
	}
	return z, to
}

// over2 is a node over its operands' new numbers.
func over2(op api.Op, to []int) api.Op {
	l := operandsOf(op)
	if len(l) > 0 {
		op.A = to[op.A]
	}
	if len(l) > 1 {
		op.B = to[op.B]
	}
	return op
}

// plainMerge is the chapter's Merge, each node held against all that were kept.
func plainMerge(t api.Tape) (api.Tape, []int) {
	z := api.Tape{Inputs: t.Inputs}
	var to []int
	for _, op := range t.Ops {
		op = over2(op, to)
		if (op.Kind == api.OpAdd || op.Kind == api.OpMul) && op.A > op.B {
			op.A, op.B = op.B, op.A
		}
		at := slices.IndexFunc(z.Ops, func(k api.Op) bool { return reflect.DeepEqual(k, op) })
		if at < 0 {
			at = len(z.Ops)
			z.Ops = append(z.Ops, op)
		}
		to = append(to, at)
	}
	for _, n := range t.Outs {
		z.Outs = append(z.Outs, to[n])
	}
	return z, to
}

// P5.3, P5.4, P5.5, P5.12: over tapes at random.
func TestMadePlain(t *testing.T) {
	t.Parallel()
	d := dice(3)
	joined, dropped := 0, 0
	for i := range 3000 {
		x := d.tape(pick(&d, 4, 12, 25))
		what := fmt.Sprint("tape ", i)
		trimmed, first := plainTrim(x)
		wantMade(t, what+" Trim", tape.Trim, x, trimmed, first)
		wantItself(t, what+" Trim", tape.Trim, trimmed)
		merged, to := plainMerge(x)
		wantMade(t, what+" Merge", tape.Merge, x, merged, to)
		wantItself(t, what+" Merge", tape.Merge, merged)
		clean, then := plainMerge(trimmed)
		both := make([]int, len(x.Ops))
		for n := range both {
			both[n] = -1
			if first[n] >= 0 {
				both[n] = then[first[n]]
			}
		}
		wantMade(t, what+" Clean", tape.Clean, x, clean, both)
		wantItself(t, what+" Trim", tape.Trim, clean)
		wantItself(t, what+" Merge", tape.Merge, clean)
		wantItself(t, what+" Clean", tape.Clean, clean)
		wantMade(t, what+" Clean of Trim", tape.Clean, trimmed, clean, then)
		wantTerms(t, what, x, to)
		joined += len(x.Ops) - len(merged.Ops)
		dropped += len(x.Ops) - len(trimmed.Ops)
	}
	if joined < 1000 || dropped < 1000 {
		t.Errorf("%d nodes were merged, %d left out", joined, dropped)
	}
}

// wantTerms fails if Merge's numbers are not those of the terms, or if an output's term doesn't stay.
func wantTerms(t *testing.T, what string, x api.Tape, to []int) {
	t.Helper()
	all := terms(x)
	for i := range all {
		for j := range i {
			if (to[i] == to[j]) != (all[i] == all[j]) {
				t.Fatalf("%s: nodes %d and %d: one number: %v, one term: %v: %s", what, i, j, to[i] == to[j], all[i] == all[j], show(x))
			}
		}
	}
	for name, do := range map[string]call{"Trim": tape.Trim, "Merge": tape.Merge, "Clean": tape.Clean} {
		z, to, _ := do(x)
		if z.Inputs != x.Inputs || !slices.Equal(outTerms(z), outTerms(x)) {
			t.Fatalf("%s: %s: the outputs' terms: %v, want %v", what, name, outTerms(z), outTerms(x))
		}
		now := terms(z)
		for n, k := range to {
			if k >= 0 && now[k] != all[n] {
				t.Fatalf("%s: %s: node %d is %s, was %s", what, name, n, now[k], all[n])
			}
		}
		if _, e := tape.Check(z); e != api.OK {
			t.Fatalf("%s: %s: a tape that may not be: %d", what, name, e)
		}
	}
}

// P5.4: as many nodes as there may be, all alike by pairs, with great constants.
func TestMergeMany(t *testing.T) {
	x := api.Tape{Inputs: 2, Outs: []int{api.MaxNodes - 1}}
	for i := range api.MaxNodes / 2 {
		c := api.Rat{Num: api.Nat{uint32(i), 7, 1}, Den: api.Nat{1}}
		x.Ops = append(x.Ops, api.Op{Kind: api.OpConst, C: c}, api.Op{Kind: api.OpConst, C: c})
	}
	z, to, e := tape.Merge(x)
	if e != api.OK || len(z.Ops) != api.MaxNodes/2 || z.Outs[0] != api.MaxNodes/2-1 {
		t.Fatalf("Merge: %d nodes, %d", len(z.Ops), e)
	}
	for i, n := range to {
		if n != i/2 {
			t.Fatalf("node %d got the number %d", i, n)
		}
	}
}
