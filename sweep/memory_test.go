package sweep_test

import (
	"fmt"
	"slices"
	"testing"

	"slope/api"
	"slope/sweep"
)

// roomy is a copy of a list with three marks behind its end.
func roomy[T any](l []T, mark T) []T { return append(slices.Clone(l), mark, mark, mark)[:len(l)] }

// roomyRat is a copy of a number whose lists have such room.
func roomyRat(r api.Rat) api.Rat {
	return api.Rat{Neg: r.Neg, Num: roomy(r.Num, 0xa5a5a5a5), Den: roomy(r.Den, 0xa5a5a5a5)}
}

// roomyRats are numbers with such room, within and behind.
func roomyRats(l []api.Rat) []api.Rat {
	var z []api.Rat
	for _, r := range l {
		z = append(z, roomyRat(r))
	}
	return roomy(z, api.Rat{Neg: true, Num: api.Nat{7}, Den: api.Nat{9}})
}

// roomyLists are lists of numbers with such room, within and behind.
func roomyLists(l [][]api.Rat) [][]api.Rat {
	var z [][]api.Rat
	for _, r := range l {
		z = append(z, roomyRats(r))
	}
	return roomy(z, nums("5 6"))
}

// roomyTape is a copy of a tape all of whose lists have such room.
func roomyTape(t api.Tape) api.Tape {
	z := api.Tape{Inputs: t.Inputs, Outs: roomy(t.Outs, -9)}
	for _, op := range t.Ops {
		op.C = roomyRat(op.C)
		z.Ops = append(z.Ops, op)
	}
	z.Ops = roomy(z.Ops, api.Op{Kind: 99, A: -9, B: -9, N: -9, C: roomyRat(num("-7/9"))})
	return z
}

// all is a list with the room behind its end.
func all[T any](l []T) []T { return l[:cap(l)] }

// dumpRats is a text of all that can be reached from numbers, rooms too.
func dumpRats(l []api.Rat) string {
	s := ""
	for _, r := range all(l) {
		s += fmt.Sprint(r.Neg, all(r.Num), all(r.Den))
	}
	return s
}

// dumpLists is that of lists of numbers.
func dumpLists(l [][]api.Rat) string {
	s := ""
	for _, r := range all(l) {
		s += "(" + dumpRats(r) + ")"
	}
	return s
}

// dump is that of a tape.
func dump(t api.Tape) string {
	s := fmt.Sprint(t.Inputs, all(t.Outs))
	for _, op := range all(t.Ops) {
		s += fmt.Sprint(op.Kind, op.A, op.B, op.N, dumpRats([]api.Rat{op.C}))
	}
	return s
}

// room is one list of an answer, with the room behind its end.
type room struct {
	write func()
	text  func() string
}

// roomOf is that of a list.
func roomOf[T any](l []T, mark T) room {
	l = all(l)
	return room{func() {
		for i := range l {
			l[i] = mark
		}
	}, func() string { return fmt.Sprint(l) }}
}

// rooms are all lists of an answer; those that have others within them are the last.
func rooms(d [][]api.Rat) []room {
	var l []room
	for _, r := range d {
		for _, x := range r {
			l = append(l, roomOf(x.Num, 0xa5a5a5a5), roomOf(x.Den, 0xa5a5a5a5))
		}
	}
	for _, r := range d {
		l = append(l, roomOf(r, api.Rat{Neg: true}))
	}
	return append(l, roomOf(d, nil))
}

// checkApart writes over one list of an answer after the other, and looks whether another one that holds no list has changed.
func checkApart(t *testing.T, what string, d [][]api.Rat) {
	t.Helper()
	l := rooms(d)
	numbers := len(l) - len(d) - 1
	var was []string
	for _, r := range l {
		was = append(was, r.text())
	}
	for i, r := range l[:numbers] {
		for j := i; j < numbers; j++ {
			if l[j].text() != was[j] {
				t.Fatalf("%s: two numbers of one answer share memory: list %d", what, j)
			}
		}
		r.write()
	}
	was = was[:0]
	for _, r := range l {
		was = append(was, r.text())
	}
	for i := numbers; i < len(l); i++ {
		for j := i; j < len(l)-1; j++ {
			if l[j].text() != was[j] {
				t.Fatalf("%s: two lists of one answer share memory: list %d", what, j-numbers)
			}
		}
		l[i].write()
	}
}

// held is what calls are given.
type held struct {
	x        api.Tape
	at       []api.Rat
	w, along [][]api.Rat
}

// dump is all that can be reached from it.
func (h held) dump() string {
	return dump(h.x) + "|" + dumpRats(h.at) + "|" + dumpLists(h.w) + "|" + dumpLists(h.along)
}

// calls are all calls, each with its answer as lists of numbers.
func calls() map[string]func(h held) ([][]api.Rat, int, api.Errno) {
	one := func(l []api.Rat, place int, e api.Errno) ([][]api.Rat, int, api.Errno) {
		return [][]api.Rat{l}, place, e
	}
	return map[string]func(h held) ([][]api.Rat, int, api.Errno){
		"Nodes":  func(h held) ([][]api.Rat, int, api.Errno) { return one(sweep.Nodes(h.x, h.at)) },
		"Values": func(h held) ([][]api.Rat, int, api.Errno) { return one(sweep.Values(h.x, h.at)) },
		"Pole": func(h held) ([][]api.Rat, int, api.Errno) {
			n, _, place, e := sweep.Pole(h.x, h.at)
			return nil, n + place, e
		},
		"Tangents": func(h held) ([][]api.Rat, int, api.Errno) { return one(sweep.Tangents(h.x, h.at, h.along[0])) },
		"Forward":  func(h held) ([][]api.Rat, int, api.Errno) { return sweep.Forward(h.x, h.at, h.along) },
		"Adjoints": func(h held) ([][]api.Rat, int, api.Errno) { return one(sweep.Adjoints(h.x, h.at, h.w[0])) },
		"Reverse":  func(h held) ([][]api.Rat, int, api.Errno) { return sweep.Reverse(h.x, h.at, h.w) },
		"Second":   func(h held) ([][]api.Rat, int, api.Errno) { return sweep.Second(h.x, h.at, h.w[0], h.along) },
	}
}

// helds are tapes of all kinds with what stands beside them.
func helds(t *testing.T) []held {
	d := dice(31)
	var l []held
	add := func(x api.Tape, at []api.Rat, w, along [][]api.Rat) {
		l = append(l, held{roomyTape(x), roomyRats(at), roomyLists(w), roomyLists(along)})
	}
	add(example(), nums("6 2"), lists("1 2", "0 1"), lists("1 0", "3 4"))
	add(example(), nums("6 0"), lists("1 2"), lists("1 0"))
	add(api.Tape{}, nil, lists(""), lists(""))
	add(api.Tape{Ops: []api.Op{{Kind: 99}}, Outs: []int{0}}, nil, lists("1"), lists(""))
	// What is passed on without any work: inputs, constants and directions as outputs, several times; products by 1.
	passing := must(t, "inputs 2; in 0; in 0; const -7/3; const 1; mul 3 0; mul 3 2; neg 0; neg 6; add 3 3; out 0; out 1; out 0; out 2; out 2; out 4; out 5; out 7; out 3")
	add(passing, nums("12345678901234567890/7 5"), append(units(9), nums("1 1 1 1 1 1 1 1 1")), lists("12345678901234567890/7 5", "-1 1", "0 0"))
	for range 150 {
		x := d.tape(8)
		add(x, d.point(x.Inputs), d.points(1+d.next(3), len(x.Outs)), d.points(1+d.next(3), x.Inputs))
	}
	// two directions, two lists of weights, two coordinates of one memory
	last := l[4]
	last.at = []api.Rat{last.at[0], last.at[0]}
	last.along = [][]api.Rat{last.at, last.at}
	last.w = [][]api.Rat{last.w[9], last.w[9]}
	return append(l, last)
}

// DOC.md's P2: what is handed in stays as it was, its room too, and is not kept; answers are new memory, each list of them.
func TestMemory(t *testing.T) {
	for i, h := range helds(t) {
		for name, do := range calls() {
			what := fmt.Sprint(name, " of tape ", i)
			before := h.dump()
			d, place, e := do(h)
			want := fmt.Sprint(rows(d), place, e)
			if h.dump() != before {
				t.Fatalf("%s: an argument was changed", what)
			}
			for _, r := range rooms(d) {
				r.write()
			}
			if h.dump() != before {
				t.Fatalf("%s: an answer shares memory with an argument", what)
			}
			again, place, e := do(h)
			if fmt.Sprint(rows(again), place, e) != want {
				t.Fatalf("%s: another answer the second time", what)
			}
			checkApart(t, what, again)
		}
	}
}

// DOC.md's P2: a change of an argument after the call isn't seen in the answer.
func TestNothingKept(t *testing.T) {
	for i, h := range helds(t) {
		for name, do := range calls() {
			mine := held{roomyTape(h.x), roomyRats(h.at), roomyLists(h.w), roomyLists(h.along)}
			d, _, _ := do(mine)
			want := rows(d)
			for _, r := range append(append(rooms([][]api.Rat{mine.at}), rooms(mine.w)...), rooms(mine.along)...) {
				r.write()
			}
			for _, op := range mine.x.Ops {
				roomOf(op.C.Num, 0xa5a5a5a5).write()
				roomOf(op.C.Den, 0xa5a5a5a5).write()
			}
			clear(mine.x.Ops)
			clear(mine.x.Outs)
			if rows(d) != want {
				t.Fatalf("%s of tape %d: an argument is kept", name, i)
			}
		}
	}
}

// DOC.md's P3: nil and empty lists are the same.
func TestNilAndEmpty(t *testing.T) {
	x := must(t, "inputs 0; const 3; neg 0; out 1")
	y := x
	y.Ops = slices.Clone(x.Ops)
	for i := range y.Ops {
		if y.Ops[i].Kind != api.OpConst {
			y.Ops[i].C = api.Rat{Num: api.Nat{}, Den: api.Nat{}}
		}
	}
	y.Ops[0].C.Num = slices.Clip(y.Ops[0].C.Num)
	zero := []api.Rat{{Num: api.Nat{}, Den: api.Nat{1}}}
	for name, do := range calls() {
		a, place, e := do(held{x, nil, [][]api.Rat{{{Den: api.Nat{1}}}}, [][]api.Rat{nil}})
		b, p, f := do(held{y, []api.Rat{}, [][]api.Rat{zero}, [][]api.Rat{{}}})
		if rows(a) != rows(b) || place != p || e != f || e != api.OK {
			t.Errorf("%s: %s, %d, %d; %s, %d, %d", name, rows(a), place, e, rows(b), p, f)
		}
	}
	one := must(t, "inputs 1; in 0; pow 0 2; out 1")
	for _, at := range [][]api.Rat{zero, {{Den: api.Nat{1}}}} {
		l, place, e := sweep.Nodes(one, at)
		wantRow(t, "Nodes", l, place, e, "0 0")
		d, place, e := sweep.Second(one, at, nums("1"), [][]api.Rat{at})
		wantRows(t, "Second", d, place, e, "0")
	}
}
