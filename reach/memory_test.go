package reach_test

import (
	"fmt"
	"slices"
	"strings"
	"testing"

	"slope/api"
)

// roomy is a copy of a list with three marks behind its end.
func roomy[T any](l []T, mark T) []T { return append(slices.Clone(l), mark, mark, mark)[:len(l)] }

// roomyRat is a copy of a number whose lists have such room.
func roomyRat(r api.Rat) api.Rat {
	return api.Rat{Neg: r.Neg, Num: roomy(r.Num, 0xa5a5a5a5), Den: roomy(r.Den, 0xa5a5a5a5)}
}

// roomyTape is a copy of a tape all of whose lists have such room.
func roomyTape(t api.Tape) api.Tape {
	z := api.Tape{Inputs: t.Inputs, Outs: roomy(t.Outs, -9)}
	for _, op := range t.Ops {
		op.C = roomyRat(op.C)
		z.Ops = append(z.Ops, op)
	}
	z.Ops = roomy(z.Ops, api.Op{Kind: 99, A: -9, B: -9, N: -9, C: roomyRat(num("-7/9"))})
	return z
}

// all is a list with the room behind its end.
func all[T any](l []T) []T { return l[:cap(l)] }

// dump is a text of all that can be reached from a tape, rooms too.
func dump(t api.Tape) string {
	var s strings.Builder
	fmt.Fprint(&s, t.Inputs, len(t.Ops), len(t.Outs), all(t.Outs))
	for _, op := range all(t.Ops) {
		fmt.Fprint(&s, op.Kind, op.A, op.B, op.N, op.C.Neg, len(op.C.Num), all(op.C.Num), len(op.C.Den), all(op.C.Den))
	}
	return s.String()
}

// each calls f with the address of each thing in a list and in the room behind it.
func each[T any](l []T, f func(at any)) {
	for i := range all(l) {
		f(&all(l)[i])
	}
}

// tapeAddresses calls f with the address of each thing in each list of a tape.
func tapeAddresses(t api.Tape, f func(at any)) {
	each(t.Outs, f)
	each(t.Ops, f)
	for _, op := range all(t.Ops) {
		each(op.C.Num, f)
		each(op.C.Den, f)
	}
}

// addresses calls f with the address of each thing in each list of an answer.
func (a answer) addresses(f func(at any)) {
	each(a.table.Sets, f)
	for _, s := range all(a.table.Sets) {
		each(s.Words, f)
	}
	each(a.pat.Start, f)
	each(a.pat.Cols, f)
	each(a.ints, f)
	each(a.bools, f)
}

// spoil writes over all of an answer.
func (a answer) spoil() {
	for _, s := range all(a.table.Sets) {
		fill(s.Words, 0xa5a5a5a5a5a5a5a5)
	}
	fill(a.table.Sets, api.Set{Size: -1})
	fill(a.pat.Start, -99)
	fill(a.pat.Cols, -99)
	fill(a.ints, -99)
	fill(a.bools, true)
}

func fill[T any](l []T, mark T) {
	for i := range all(l) {
		all(l)[i] = mark
	}
}

// DOC.md's P2: what is handed in stays as it was, its room too, and is not kept; answers are new memory, each list of them.
func TestMemory(t *testing.T) {
	t.Parallel()
	d := dice(31)
	answered := map[string]int{}
	for i := range 500 {
		h := held{x: d.small(12, anyPowers()...), a: d.next(3), b: d.next(3)}
		switch {
		case i%10 == 0:
			h.x = d.spoilt()
		case i%25 == 1:
			h.x = d.tape(64, 200, 64, anyPowers()...)
		}
		if i%7 > 0 {
			h.x = roomyTape(h.x)
		}
		checkMemory(t, i, h, answered)
	}
	for _, c := range allCalls() {
		if answered[c.name] < 150 {
			t.Errorf("%s was answered %d times", c.name, answered[c.name])
		}
	}
}

// checkMemory makes all calls with one thing.
func checkMemory(t *testing.T, i int, h held, answered map[string]int) {
	t.Helper()
	before := dump(h.x)
	given := map[any]struct{}{}
	tapeAddresses(h.x, func(at any) { given[at] = struct{}{} })
	for _, c := range allCalls() {
		what := fmt.Sprint(c.name, " of ", i)
		a := c.do(h)
		want := a.text()
		mine := map[any]struct{}{}
		a.addresses(func(at any) {
			if _, met := given[at]; met {
				t.Fatalf("%s: an answer shares memory with an argument", what)
			}
			if _, met := mine[at]; met {
				t.Fatalf("%s: two lists of an answer share memory", what)
			}
			mine[at] = struct{}{}
		})
		a.spoil()
		if again := c.do(h).text(); again != want {
			t.Fatalf("%s: another answer the second time: %s, %s", what, short(want), short(again))
		}
		if dump(h.x) != before {
			t.Fatalf("%s: an argument was changed", what)
		}
		if a.e == api.OK {
			answered[c.name]++
		}
	}
}

// DOC.md's P3: nil and empty lists are the same.
func TestNilAndEmpty(t *testing.T) {
	x := must(t, "inputs 1; const 0; in 0; neg 0; mul 1 2; out 3")
	y := api.Tape{Inputs: 1, Outs: x.Outs}
	for _, op := range x.Ops {
		if op.C.Num == nil {
			op.C.Num = api.Nat{}
		}
		if op.C.Den == nil {
			op.C.Den = api.Nat{}
		}
		y.Ops = append(y.Ops, op)
	}
	for _, c := range allCalls() {
		if a, b := c.do(held{x: x}), c.do(held{x: y}); a.text() != b.text() || a.e != api.OK {
			t.Errorf("%s: %s, %s", c.name, a.text(), b.text())
		}
		a, b := c.do(held{x: api.Tape{}}), c.do(held{x: api.Tape{Ops: []api.Op{}, Outs: []int{}}})
		if a.text() != b.text() || a.e != api.ErrOutputs || a.place != -1 {
			t.Errorf("%s of nothing: %s, %s", c.name, a.text(), b.text())
		}
	}
}
