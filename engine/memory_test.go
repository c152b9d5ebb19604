package engine_test

import (
	"fmt"
	"slices"
	"strings"
	"testing"

	"slope/api"
	"slope/engine"
)

// held is what calls are given.
type held struct {
	x, inner api.Tape
	at, w    []api.Rat
	points   [][]api.Rat
	plan     api.Plan
}

// answer is what they answer.
type answer struct {
	list     []api.Rat
	colours  []int
	patterns []api.Pattern
	many     []api.Answer
	x        api.Tape
	number   int
	e        api.Errno
}

func (a answer) text() string {
	return fmt.Sprint(row(a.list), len(a.list), a.colours, len(a.colours), a.patterns, batchText(a.many), len(a.many), a.x, a.number, a.e)
}

// call is a call by its name.
type call struct {
	name string
	do   func(h held) answer
}

func allCalls() []call {
	return []call{
		{"Outcome", func(h held) answer {
			n, e := engine.Outcome(h.x, h.at)
			return answer{number: n, e: e}
		}},
		{"OutcomeWith", func(h held) answer {
			n, e := engine.OutcomeWith(h.x, h.at, h.w)
			return answer{number: n, e: e}
		}},
		{"Values", func(h held) answer {
			l, n, e := engine.Values(h.x, h.at)
			return answer{list: l, number: n, e: e}
		}},
		{"Patterns", func(h held) answer {
			p, q, n, e := engine.Patterns(h.x)
			return answer{patterns: []api.Pattern{p, q}, number: n, e: e}
		}},
		{"Colours", func(h held) answer {
			l, n, e := engine.Colours(h.x, h.plan)
			return answer{colours: l, number: n, e: e}
		}},
		{"HessianColours", func(h held) answer {
			l, n, e := engine.HessianColours(h.x, h.plan)
			return answer{colours: l, number: n, e: e}
		}},
		{"Jacobian", func(h held) answer {
			m, sweeps, place, e := engine.Jacobian(h.x, h.at, h.plan)
			return answer{many: []api.Answer{{M: m, Sweeps: sweeps, Place: place, Err: e}}, e: e}
		}},
		{"Hessian", func(h held) answer {
			m, sweeps, place, e := engine.Hessian(h.x, h.at, h.w, h.plan)
			return answer{many: []api.Answer{{M: m, Sweeps: sweeps, Place: place, Err: e}}, e: e}
		}},
		{"Batch", func(h held) answer {
			l, e := engine.Batch(h.x, h.points, h.plan)
			return answer{many: l, e: e}
		}},
		{"Compose", func(h held) answer {
			x, n, e := engine.Compose(h.x, h.inner)
			return answer{x: x, number: n, e: e}
		}},
	}
}

// roomy is a copy of a list with three marks behind its end.
func roomy[T any](l []T, mark T) []T { return append(slices.Clone(l), mark, mark, mark)[:len(l)] }

// roomyRat is a copy of a number whose lists have such room.
func roomyRat(r api.Rat) api.Rat {
	return api.Rat{Neg: r.Neg, Num: roomy(r.Num, 0xa5a5a5a5), Den: roomy(r.Den, 0xa5a5a5a5)}
}

// roomyRats are numbers with such room, within and behind.
func roomyRats(l []api.Rat) []api.Rat {
	var z []api.Rat
	for _, r := range l {
		z = append(z, roomyRat(r))
	}
	return roomy(z, roomyRat(num("-7/9")))
}

// roomyTape is a tape all of whose lists have such room.
func roomyTape(t api.Tape) api.Tape {
	x := api.Tape{Inputs: t.Inputs, Outs: roomy(t.Outs, -9)}
	for _, op := range t.Ops {
		op.C = roomyRat(op.C)
		x.Ops = append(x.Ops, op)
	}
	x.Ops = roomy(x.Ops, api.Op{Kind: 99, A: -9, B: -9, N: -9, C: roomyRat(num("-7/9"))})
	return x
}

// roomy is a copy all of whose lists have such room.
func (h held) roomy() held {
	var points [][]api.Rat
	for _, l := range h.points {
		points = append(points, roomyRats(l))
	}
	h.plan.Script = roomy(h.plan.Script, -9)
	return held{roomyTape(h.x), roomyTape(h.inner), roomyRats(h.at), roomyRats(h.w), roomy(points, roomyRats(nums("-7/9 3"))), h.plan}
}

// all is a list with the room behind its end.
func all[T any](l []T) []T { return l[:cap(l)] }

// memory is all lists that can be reached, their rooms too.
type memory struct {
	ints    [][]int
	limbs   []api.Nat
	rats    [][]api.Rat
	lists   [][][]api.Rat
	ops     [][]api.Op
	answers [][]api.Answer
}

func (m *memory) number(r api.Rat) { m.limbs = append(m.limbs, r.Num, r.Den) }

func (m *memory) numbers(l []api.Rat) {
	m.rats = append(m.rats, l)
	for _, r := range all(l) {
		m.number(r)
	}
}

func (m *memory) tape(x api.Tape) {
	m.ints, m.ops = append(m.ints, x.Outs), append(m.ops, x.Ops)
	for _, op := range all(x.Ops) {
		m.number(op.C)
	}
}

// memory is that of what is handed in.
func (h held) memory() memory {
	m := memory{ints: [][]int{h.plan.Script}, lists: [][][]api.Rat{h.points}}
	m.tape(h.x)
	m.tape(h.inner)
	m.numbers(h.at)
	m.numbers(h.w)
	for _, l := range all(h.points) {
		m.numbers(l)
	}
	return m
}

// memory is that of an answer.
func (a answer) memory() memory {
	m := memory{ints: [][]int{a.colours}, answers: [][]api.Answer{a.many}}
	for _, p := range a.patterns {
		m.ints = append(m.ints, p.Start, p.Cols)
	}
	m.numbers(a.list)
	m.tape(a.x)
	for _, b := range all(a.many) {
		m.ints = append(m.ints, b.M.P.Start, b.M.P.Cols)
		m.numbers(b.M.Vals)
	}
	return m
}

// dump is a text of all of it, rooms too.
func (m memory) dump() string {
	var s strings.Builder
	for _, l := range m.ints {
		fmt.Fprint(&s, len(l), all(l))
	}
	for _, n := range m.limbs {
		fmt.Fprint(&s, len(n), all(n))
	}
	for _, l := range m.rats {
		fmt.Fprint(&s, len(l), cap(l))
		for _, r := range all(l) {
			fmt.Fprint(&s, r.Neg, len(r.Num), len(r.Den))
		}
	}
	for _, l := range m.lists {
		fmt.Fprint(&s, len(l), cap(l))
	}
	for _, l := range m.ops {
		fmt.Fprint(&s, len(l), cap(l))
		for _, op := range all(l) {
			fmt.Fprint(&s, op.Kind, op.A, op.B, op.N, op.C.Neg)
		}
	}
	return s.String()
}

// addresses calls f with the address of each thing in each list.
func (m memory) addresses(f func(at any)) {
	each(m.ints, f)
	each(m.rats, f)
	each(m.lists, f)
	each(m.ops, f)
	each(m.answers, f)
	for _, n := range m.limbs {
		each([][]uint32{n}, f)
	}
}

func each[T any](lists [][]T, f func(at any)) {
	for _, l := range lists {
		for i := range all(l) {
			f(&all(l)[i])
		}
	}
}

// spoil writes over all of it.
func (m memory) spoil() {
	for _, n := range m.limbs {
		for i := range all(n) {
			all(n)[i] = 0x5a5a5a5a
		}
	}
	for _, l := range m.ints {
		for i := range all(l) {
			all(l)[i] = -99
		}
	}
	for _, l := range m.rats {
		clear(all(l))
	}
	for _, l := range m.lists {
		clear(all(l))
	}
	for _, l := range m.ops {
		clear(all(l))
	}
	for _, l := range m.answers {
		clear(all(l))
	}
}

// helds are tapes of all kinds with what stands beside them.
func helds(t *testing.T) []held {
	d := dice(31)
	var l []held
	add := func(h held) { l = append(l, h, h.roomy()) }
	add(held{})
	add(held{x: api.Tape{Ops: []api.Op{{Kind: 99}}, Outs: []int{0}}, w: nums("1"), points: [][]api.Rat{nil, nums("1")}, plan: api.Plan{Mode: 3, Route: 3, Workers: 2}})
	// What is passed on without any work: inputs and constants as outputs, products by 1, one output twice.
	passing := must(t, "inputs 2; in 0; in 0; const -7/3; const 1; mul 3 0; neg 0; neg 5; add 4 6; in 1; mul 8 3; out 0; out 0; out 2; out 7; out 9; out 1; out 2")
	for i := range 60 {
		x := d.tape(10)
		if i%6 == 0 {
			x = passing
		}
		inner := d.tape(8)
		for len(inner.Outs) < x.Inputs {
			inner.Outs = append(inner.Outs, d.next(len(inner.Ops)))
		}
		inner.Outs = inner.Outs[:max(1, x.Inputs)]
		plan, other := pick(&d, d.jacobianPlans(x)...), pick(&d, d.hessianPlans(x)...)
		plan.Route = other.Route
		if plan.Order == api.OrderScript {
			plan.Script = d.shuffle(pick(&d, x.Inputs, coloured(x, plan.Mode)))
		} else if other.Order == api.OrderScript {
			plan.Order, plan.Script = other.Order, other.Script
		}
		points := append(d.points(x, d.next(5)), d.away(x.Inputs))
		add(held{x, inner, d.away(x.Inputs), d.point(len(x.Outs)), points, plan})
	}
	// one list for all that is handed in
	at := nums("12345678901234567890/7 5")
	add(held{passing, passing, at, slices.Repeat(at[:1], 7), [][]api.Rat{at, at}, api.Plan{Mode: 2, Route: 1, Order: 4, Workers: 2}})
	l = append(l, held{passing, passing, at, slices.Repeat(at[:1], 7), [][]api.Rat{at, at}, api.Plan{Mode: 1, Route: 2, Order: 3, Workers: 16}})
	return l
}

// P17.10, DOC.md's P2: what is handed in stays as it was, its room too, and is not kept; answers are new memory, each list of them, every number's limbs too.
func TestMemory(t *testing.T) {
	t.Parallel()
	answered := map[string]int{}
	for i, h := range helds(t) {
		before := h.memory().dump()
		given := map[any]struct{}{}
		h.memory().addresses(func(at any) { given[at] = struct{}{} })
		for _, c := range allCalls() {
			what := fmt.Sprint(c.name, " of ", i)
			a := c.do(h)
			want := a.text()
			mine := map[any]struct{}{}
			a.memory().addresses(func(at any) {
				if _, met := given[at]; met {
					t.Fatalf("%s: an answer shares memory with an argument", what)
				}
				if _, met := mine[at]; met {
					t.Fatalf("%s: two lists of an answer share memory", what)
				}
				mine[at] = struct{}{}
			})
			a.memory().spoil()
			b := c.do(h)
			if b.text() != want {
				t.Fatalf("%s: another answer the second time: %s, %s", what, short(want), short(b.text()))
			}
			b.memory().addresses(func(at any) {
				if _, met := mine[at]; met {
					t.Fatalf("%s: two answers share memory", what)
				}
			})
			if h.memory().dump() != before {
				t.Fatalf("%s: an argument was changed", what)
			}
			if a.e == api.OK {
				answered[c.name]++
			}
		}
	}
	for _, c := range allCalls() {
		if answered[c.name] < 50 {
			t.Errorf("%s was answered %d times", c.name, answered[c.name])
		}
	}
}

// DOC.md's P2: a change of an argument after the call isn't seen in the answer.
func TestNothingKept(t *testing.T) {
	t.Parallel()
	for i, h := range helds(t) {
		for _, c := range allCalls() {
			mine := h.roomy()
			a := c.do(mine)
			want := a.text()
			mine.memory().spoil()
			if a.text() != want {
				t.Fatalf("%s of %d: an argument is kept", c.name, i)
			}
		}
	}
}

// DOC.md's P3: nil and empty lists are the same.
func TestNilAndEmpty(t *testing.T) {
	x := must(t, "inputs 0; const 3; pow 0 2; out 1")
	y := api.Tape{Ops: slices.Clone(x.Ops), Outs: x.Outs}
	y.Ops[1].C = api.Rat{Num: api.Nat{}, Den: api.Nat{}}
	zero, naught := []api.Rat{{Den: api.Nat{1}}}, []api.Rat{{Num: api.Nat{}, Den: api.Nat{1}}}
	for _, c := range allCalls() {
		for kind := 1; kind <= 4; kind++ {
			for _, o := range orders() {
				plan := api.Plan{Mode: api.Mode(min(kind, 3)), Route: api.Route(kind), Order: o, Workers: 1}
				empty := plan
				empty.Script = []int{}
				a, b := c.do(held{x: x, w: zero, plan: plan}), c.do(held{x: y, at: []api.Rat{}, w: naught, points: [][]api.Rat{}, plan: empty})
				if a.text() != b.text() {
					t.Errorf("%s: %s, %s", c.name, a.text(), b.text())
				}
			}
		}
		a, b := c.do(held{}), c.do(held{x: api.Tape{Ops: []api.Op{}, Outs: []int{}}, inner: api.Tape{Ops: []api.Op{}, Outs: []int{}}, at: []api.Rat{}, w: []api.Rat{}, points: [][]api.Rat{}})
		if a.text() != b.text() {
			t.Errorf("%s: %s, %s", c.name, a.text(), b.text())
		}
	}
	one := must(t, "inputs 1; in 0; pow 0 2; out 1")
	plan := api.Plan{Mode: 3, Route: 4, Workers: 1}
	for _, at := range [][]api.Rat{zero, naught} {
		isAnswer(t, answerText(engine.Jacobian(one, at, plan)), "1 sweeps, place 0, error 0, 1 by 1 | 0,0: 0")
		isAnswer(t, answerText(engine.Hessian(one, at, nums("1"), plan)), "1 sweeps, place 0, error 0, 1 by 1 | 0,0: 2")
		isAnswer(t, answerText(engine.Hessian(one, nums("5"), at, plan)), "1 sweeps, place 0, error 0, 1 by 1 | 0,0: 0")
	}
	l, e := engine.Batch(one, [][]api.Rat{nil, {}, zero, naught}, plan)
	if e != api.OK || l[0].Err != api.ErrPoint || l[1].Err != api.ErrPoint || l[2].Err != api.OK || l[3].Err != api.OK {
		t.Errorf("Batch: %s, error %d", batchText(l), e)
	}
}
