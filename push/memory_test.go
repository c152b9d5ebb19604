package push_test

import (
	"fmt"
	"slices"
	"strings"
	"testing"

	"slope/api"
	"slope/push"
)

// held is what calls are given.
type held struct {
	x     api.Tape
	at, w []api.Rat
	upto  int
}

// answer is what they answer.
type answer struct {
	list  []api.Rat
	edges []api.Edge
	m     api.Matrix
	place int
	e     api.Errno
}

func (a answer) text() string {
	s := fmt.Sprint(stateText(a.list, a.edges), len(a.list), a.place, a.e)
	if a.m.P.Start != nil {
		s += matrixText(a.m)
	}
	return s
}

// call is a call by its name.
type call struct {
	name string
	do   func(h held) answer
}

func allCalls() []call {
	return []call{
		{"State", func(h held) answer {
			l, edges, place, e := push.State(h.x, h.at, h.w, h.upto)
			return answer{list: l, edges: edges, place: place, e: e}
		}},
		{"Hessian", func(h held) answer {
			m, place, e := push.Hessian(h.x, h.at, h.w)
			return answer{m: m, place: place, e: e}
		}},
		{"Gradient", func(h held) answer {
			l, place, e := push.Gradient(h.x, h.at, h.w)
			return answer{list: l, place: place, e: e}
		}},
	}
}

// roomy is a copy of a list with three marks behind its end.
func roomy[T any](l []T, mark T) []T { return append(slices.Clone(l), mark, mark, mark)[:len(l)] }

// roomyRat is a copy of a number whose lists have such room.
func roomyRat(r api.Rat) api.Rat {
	return api.Rat{Neg: r.Neg, Num: roomy(r.Num, 0xa5a5a5a5), Den: roomy(r.Den, 0xa5a5a5a5)}
}

// roomyRats are numbers with such room, within and behind.
func roomyRats(l []api.Rat) []api.Rat {
	var z []api.Rat
	for _, r := range l {
		z = append(z, roomyRat(r))
	}
	return roomy(z, roomyRat(num("-7/9")))
}

// roomy is a copy all of whose lists have such room.
func (h held) roomy() held {
	x := api.Tape{Inputs: h.x.Inputs, Outs: roomy(h.x.Outs, -9)}
	for _, op := range h.x.Ops {
		op.C = roomyRat(op.C)
		x.Ops = append(x.Ops, op)
	}
	x.Ops = roomy(x.Ops, api.Op{Kind: 99, A: -9, B: -9, N: -9, C: roomyRat(num("-7/9"))})
	return held{x, roomyRats(h.at), roomyRats(h.w), h.upto}
}

// all is a list with the room behind its end.
func all[T any](l []T) []T { return l[:cap(l)] }

// memory is all lists that can be reached, their rooms too.
type memory struct {
	ints  [][]int
	limbs []api.Nat
	rats  [][]api.Rat
	ops   [][]api.Op
	edges [][]api.Edge
}

func (m *memory) number(r api.Rat) { m.limbs = append(m.limbs, r.Num, r.Den) }

func (m *memory) numbers(l []api.Rat) {
	m.rats = append(m.rats, l)
	for _, r := range all(l) {
		m.number(r)
	}
}

// memory is that of what is handed in.
func (h held) memory() memory {
	m := memory{ints: [][]int{h.x.Outs}, ops: [][]api.Op{h.x.Ops}}
	for _, op := range all(h.x.Ops) {
		m.number(op.C)
	}
	m.numbers(h.at)
	m.numbers(h.w)
	return m
}

// memory is that of an answer.
func (a answer) memory() memory {
	m := memory{ints: [][]int{a.m.P.Start, a.m.P.Cols}, edges: [][]api.Edge{a.edges}}
	m.numbers(a.list)
	m.numbers(a.m.Vals)
	for _, x := range all(a.edges) {
		m.number(x.Val)
	}
	return m
}

// dump is a text of all of it, rooms too.
func (m memory) dump() string {
	var s strings.Builder
	for _, l := range m.ints {
		fmt.Fprint(&s, len(l), all(l))
	}
	for _, n := range m.limbs {
		fmt.Fprint(&s, len(n), all(n))
	}
	for _, l := range m.rats {
		fmt.Fprint(&s, len(l), cap(l))
		for _, r := range all(l) {
			fmt.Fprint(&s, r.Neg, len(r.Num), len(r.Den))
		}
	}
	for _, l := range m.ops {
		fmt.Fprint(&s, len(l), cap(l))
		for _, op := range all(l) {
			fmt.Fprint(&s, op.Kind, op.A, op.B, op.N, op.C.Neg)
		}
	}
	return s.String()
}

// addresses calls f with the address of each thing in each list.
func (m memory) addresses(f func(at any)) {
	each(m.ints, f)
	each(m.rats, f)
	each(m.ops, f)
	each(m.edges, f)
	for _, n := range m.limbs {
		each([][]uint32{n}, f)
	}
}

func each[T any](lists [][]T, f func(at any)) {
	for _, l := range lists {
		for i := range all(l) {
			f(&all(l)[i])
		}
	}
}

// spoil writes over all of it.
func (m memory) spoil() {
	for _, n := range m.limbs {
		for i := range all(n) {
			all(n)[i] = 0x5a5a5a5a
		}
	}
	for _, l := range m.ints {
		for i := range all(l) {
			all(l)[i] = -99
		}
	}
	for _, l := range m.rats {
		clear(all(l))
	}
	for _, l := range m.ops {
		clear(all(l))
	}
	for _, l := range m.edges {
		clear(all(l))
	}
}

// helds are tapes of all kinds with what stands beside them.
func helds(t *testing.T) []held {
	d := dice(31)
	var l []held
	add := func(x api.Tape, at, w []api.Rat, upto int) {
		l = append(l, held{x, at, w, upto}, held{x, at, w, upto}.roomy())
	}
	for upto := range 6 {
		add(example(), nums("6 2"), nums("1 2"), upto)
		add(example(), nums("6 0"), nums("1 2"), upto)
	}
	add(api.Tape{}, nil, nil, 0)
	add(api.Tape{Ops: []api.Op{{Kind: 99}}, Outs: []int{0}}, nil, nums("1"), 0)
	// What is passed on without any work: weights as adjoints, products by 1 and -1, values as partials, one number as many edges.
	passing := must(t, "inputs 2; in 0; in 0; const -7/3; const 1; mul 3 0; mul 3 2; neg 0; neg 6; add 4 7; add 8 0; pow 9 2; in 1; in 1; mul 11 12; out 0; out 1; out 10; out 2; out 13; out 5")
	for upto := range len(passing.Ops) + 1 {
		add(passing, nums("12345678901234567890/7 5"), nums("12345678901234567890/7 -1 1 2 12345678901234567890/13 1"), upto)
	}
	for range 200 {
		x := d.tape(12)
		add(x, d.point(x.Inputs), d.point(len(x.Outs)), d.next(len(x.Ops)+1))
	}
	// two coordinates, weights and coordinates of one memory
	last := held{passing, []api.Rat{l[0].at[0], l[0].at[0]}, slices.Repeat([]api.Rat{l[0].at[0]}, 6), 11}
	return append(l, last)
}

// P14.7, DOC.md's P2: what is handed in stays as it was, its room too, and is not kept; answers are new memory, each list of them, every number's limbs too.
func TestMemory(t *testing.T) {
	t.Parallel()
	answered := map[string]int{}
	for i, h := range helds(t) {
		before := h.memory().dump()
		given := map[any]struct{}{}
		h.memory().addresses(func(at any) { given[at] = struct{}{} })
		for _, c := range allCalls() {
			what := fmt.Sprint(c.name, " of ", i)
			a := c.do(h)
			want := a.text()
			mine := map[any]struct{}{}
			a.memory().addresses(func(at any) {
				if _, met := given[at]; met {
					t.Fatalf("%s: an answer shares memory with an argument", what)
				}
				if _, met := mine[at]; met {
					t.Fatalf("%s: two lists of an answer share memory", what)
				}
				mine[at] = struct{}{}
			})
			a.memory().spoil()
			b := c.do(h)
			if b.text() != want {
				t.Fatalf("%s: another answer the second time: %s, %s", what, short(want), short(b.text()))
			}
			b.memory().addresses(func(at any) {
				if _, met := mine[at]; met {
					t.Fatalf("%s: two answers share memory", what)
				}
			})
			if h.memory().dump() != before {
				t.Fatalf("%s: an argument was changed", what)
			}
			if a.e == api.OK {
				answered[c.name]++
			}
		}
	}
	for _, c := range allCalls() {
		if answered[c.name] < 200 {
			t.Errorf("%s was answered %d times", c.name, answered[c.name])
		}
	}
}

// DOC.md's P2: a change of an argument after the call isn't seen in the answer.
func TestNothingKept(t *testing.T) {
	t.Parallel()
	for i, h := range helds(t) {
		for _, c := range allCalls() {
			mine := h.roomy()
			a := c.do(mine)
			want := a.text()
			mine.memory().spoil()
			if a.text() != want {
				t.Fatalf("%s of %d: an argument is kept", c.name, i)
			}
		}
	}
}

// DOC.md's P3: nil and empty lists are the same.
func TestNilAndEmpty(t *testing.T) {
	x := must(t, "inputs 0; const 3; pow 0 2; out 1")
	y := api.Tape{Ops: slices.Clone(x.Ops), Outs: x.Outs}
	y.Ops[1].C = api.Rat{Num: api.Nat{}, Den: api.Nat{}}
	zero, naught := []api.Rat{{Den: api.Nat{1}}}, []api.Rat{{Num: api.Nat{}, Den: api.Nat{1}}}
	for _, c := range allCalls() {
		for upto := range 3 {
			a, b := c.do(held{x, nil, zero, upto}), c.do(held{y, []api.Rat{}, naught, upto})
			if a.text() != b.text() || a.e != api.OK {
				t.Errorf("%s: %s, %s", c.name, a.text(), b.text())
			}
		}
		a, b := c.do(held{x, nil, nil, 0}), c.do(held{x, []api.Rat{}, []api.Rat{}, 0})
		if a.text() != b.text() || a.e != api.ErrWeights {
			t.Errorf("%s: %s, %s", c.name, a.text(), b.text())
		}
		a, b = c.do(held{}), c.do(held{x: api.Tape{Ops: []api.Op{}, Outs: []int{}}, at: []api.Rat{}, w: []api.Rat{}})
		if a.text() != b.text() || a.e != api.ErrOutputs {
			t.Errorf("%s: %s, %s", c.name, a.text(), b.text())
		}
	}
	one := must(t, "inputs 1; in 0; pow 0 2; out 1")
	for _, at := range [][]api.Rat{zero, naught} {
		wantState(t, one, at, nums("1"), 1, "0 | 0,0: 2")
		wantHessian(t, one, at, nums("1"), "1 by 1 | 0,0: 2")
		wantHessian(t, one, nums("5"), at, "1 by 1 | 0,0: 0")
		wantGradient(t, one, at, nums("1"), "0")
	}
}
