package record_test

import (
	"fmt"
	"math"
	"slices"
	"strings"
	"testing"
	"unsafe"

	"slope/api"
	"slope/formula"
	"slope/record"
	"slope/tape"
)

// roomy is a copy of a list with three marks behind its end.
func roomy[T any](l []T, mark T) []T { return append(slices.Clone(l), mark, mark, mark)[:len(l)] }

// roomyRat is a copy of a number whose lists have such room.
func roomyRat(r api.Rat) api.Rat {
	return api.Rat{Neg: r.Neg, Num: roomy(r.Num, 0xa5a5a5a5), Den: roomy(r.Den, 0xa5a5a5a5)}
}

// roomyRats are numbers with such room, within and behind.
func roomyRats(l []api.Rat) []api.Rat {
	var z []api.Rat
	for _, r := range l {
		z = append(z, roomyRat(r))
	}
	return roomy(z, api.Rat{Neg: true, Num: api.Nat{7}, Den: api.Nat{9}})
}

// roomyTape is a copy of a tape all of whose lists have such room.
func roomyTape(t api.Tape) api.Tape {
	z := api.Tape{Inputs: t.Inputs, Outs: roomy(t.Outs, -9)}
	for _, op := range t.Ops {
		op.C = roomyRat(op.C)
		z.Ops = append(z.Ops, op)
	}
	z.Ops = roomy(z.Ops, api.Op{Kind: 99, A: -9, C: roomyRat(num("-7/9"))})
	return z
}

// roomyModel is a copy of a model all of whose lists have such room.
func roomyModel(m api.Model) api.Model {
	z := api.Model{Inputs: roomy(m.Inputs, "let"), Lets: roomy(m.Lets, api.Let{Name: "!", Body: -9}), Outs: roomy(m.Outs, -9)}
	for _, f := range m.Funcs {
		f.Params = roomy(f.Params, "!")
		z.Funcs = append(z.Funcs, f)
	}
	z.Funcs = roomy(z.Funcs, api.Func{Name: "!", Body: -9})
	for _, x := range m.Nodes {
		x.Kids, x.Num = roomy(x.Kids, -9), roomyRat(x.Num)
		z.Nodes = append(z.Nodes, x)
	}
	z.Nodes = roomy(z.Nodes, api.Expr{Kind: 99, Name: "!", N: -9})
	return z
}

// all is a list with the room behind its end.
func all[T any](l []T) []T { return l[:cap(l)] }

// dumpRats is a text of all that can be reached from numbers, rooms too.
func dumpRats(l []api.Rat) string {
	var s strings.Builder
	for _, r := range all(l) {
		fmt.Fprint(&s, r.Neg, all(r.Num), all(r.Den))
	}
	return s.String()
}

// dumpTape is a text of all that can be reached from a tape, rooms too.
func dumpTape(t api.Tape) string {
	var s strings.Builder
	fmt.Fprint(&s, t.Inputs, all(t.Outs))
	for _, op := range all(t.Ops) {
		fmt.Fprint(&s, op.Kind, op.A, op.B, op.N, dumpRats([]api.Rat{op.C}))
	}
	return s.String()
}

// dumpModel is a text of all that can be reached from a model, rooms too.
func dumpModel(m api.Model) string {
	var s strings.Builder
	fmt.Fprint(&s, all(m.Inputs), all(m.Lets), all(m.Outs))
	for _, f := range all(m.Funcs) {
		fmt.Fprint(&s, f.Name, all(f.Params), f.Body)
	}
	for _, x := range all(m.Nodes) {
		fmt.Fprint(&s, x.Kind, x.Name, dumpRats([]api.Rat{x.Num}), x.N, all(x.Kids))
	}
	return s.String()
}

// room is one list of an answer, with the room behind its end.
type room struct {
	write func()
	text  func() string
}

// roomOf is that of a list.
func roomOf[T any](l []T, mark T) room {
	l = all(l)
	return room{func() {
		for i := range l {
			l[i] = mark
		}
	}, func() string { return fmt.Sprint(l) }}
}

// ratRooms are the lists of numbers; the list of the numbers themselves, which has others within it, is the last.
func ratRooms(l []api.Rat) []room {
	var z []room
	for _, r := range l {
		z = append(z, roomOf(r.Num, 0xa5a5a5a5), roomOf(r.Den, 0xa5a5a5a5))
	}
	return append(z, roomOf(l, api.Rat{}))
}

// tapeRooms are all lists of a tape; the last has others within it.
func tapeRooms(t api.Tape) []room {
	l := []room{roomOf(t.Outs, -5)}
	for _, op := range t.Ops {
		l = append(l, roomOf(op.C.Num, 0xa5a5a5a5), roomOf(op.C.Den, 0xa5a5a5a5))
	}
	return append(l, roomOf(t.Ops, api.Op{}))
}

// modelRooms are all lists of a model without functions; the last has others within it.
func modelRooms(m api.Model) []room {
	l := []room{roomOf(m.Inputs, "!"), roomOf(m.Lets, api.Let{Name: "!"}), roomOf(m.Outs, -5)}
	for _, x := range m.Nodes {
		l = append(l, roomOf(x.Num.Num, 0xa5a5a5a5), roomOf(x.Num.Den, 0xa5a5a5a5), roomOf(x.Kids, -5))
	}
	return append(l, roomOf(m.Nodes, api.Expr{}))
}

// checkApart writes over one list of an answer after the other, and looks whether another one has changed.
func checkApart(t *testing.T, what string, l []room) {
	t.Helper()
	var was []string
	for _, r := range l {
		was = append(was, r.text())
	}
	for i, r := range l {
		for j := i; j < len(l)-1; j++ {
			if l[j].text() != was[j] {
				t.Fatalf("%s: two lists of one answer share memory: list %d", what, j)
			}
		}
		r.write()
	}
}

// heldModels are models of all kinds; in some of them one number's memory stands at several nodes.
func heldModels(t *testing.T) []api.Model {
	t.Helper()
	c := num("-12345678901234567890/7")
	n := api.Expr{Kind: api.ExprNumber, Num: c}
	l := []api.Model{
		must(t, whole),
		must(t, "in x\nlet u = 2 + 3\nfn f(a) = a * a\nout u, u, f(u), f(7), x, x, 5, sum(u, u)"),
		must(t, "in x, y\nlet u = x\nout x, u, u, y, sum(x), prod(y)"),
		{Nodes: []api.Expr{n, n, n, {Kind: api.ExprAdd, Kids: []int{0, 1}}}, Outs: []int{3, 2}},
	}
	for _, m := range faultyModels() {
		if len(m.Nodes) < 100 && len(m.Lets) < 100 {
			l = append(l, m)
		}
	}
	return append(l, models(t, 9, 100)...)
}

// DOC.md's P2: what is handed in stays as it was, its room too.
func TestArgumentsStay(t *testing.T) {
	t.Parallel()
	d := dice(31)
	for _, m := range heldModels(t) {
		h, at := roomyModel(m), roomyRats(d.point(len(m.Inputs)))
		before := []string{dumpModel(h), dumpRats(at)}
		for _, way := range record.Ways() {
			record.Work(h, way)
			record.Record(h, way)
		}
		record.Value(h, at)
		record.Flat(h)
		if !slices.Equal(before, []string{dumpModel(h), dumpRats(at)}) {
			t.Errorf("an argument was changed: %s", showModel(m))
		}
	}
	for range 200 {
		x := roomyTape(d.tape())
		before := dumpTape(x)
		record.Tell(x)
		if dumpTape(x) != before {
			t.Errorf("an argument was changed: %s", showTape(x))
		}
	}
}

// checkNew looks whether an answer is memory of its own: do makes it and tells its lists and its text, held is a text of the arguments.
func checkNew(t *testing.T, what string, held func() string, do func() ([]room, string)) {
	t.Helper()
	before := held()
	l, want := do()
	for _, r := range l {
		r.write()
	}
	if held() != before {
		t.Fatalf("%s: an answer shares memory with an argument", what)
	}
	again, got := do()
	if got != want {
		t.Fatalf("%s: another answer the second time: %s, want %s", what, short(got), short(want))
	}
	checkApart(t, what, again)
}

// DOC.md's P2: answers are new memory, and so is each of their lists.
func TestAnswersAreNew(t *testing.T) {
	t.Parallel()
	d := dice(32)
	for _, m := range heldModels(t) {
		h, at := roomyModel(m), roomyRats(d.point(len(m.Inputs)))
		if len(at) > 1 {
			// Two coordinates of one memory don't make two values of one memory.
			at[1] = at[0]
		}
		held := func() string { return dumpModel(h) + dumpRats(at) }
		for _, way := range record.Ways() {
			checkNew(t, fmt.Sprint("Record ", showModel(m)), held, func() ([]room, string) {
				z, at, e := record.Record(h, way)
				return tapeRooms(z), fmt.Sprint(showTape(z), at, e)
			})
		}
		checkNew(t, fmt.Sprint("Value ", showModel(m)), held, func() ([]room, string) {
			l, place, e := record.Value(h, at)
			return ratRooms(l), fmt.Sprint(showRats(l), place, e)
		})
		checkNew(t, fmt.Sprint("Flat ", showModel(m)), held, func() ([]room, string) {
			z, at, e := record.Flat(h)
			return modelRooms(z), fmt.Sprint(showModel(z), at, e)
		})
	}
	c := num("-12345678901234567890/7")
	shared := api.Tape{Ops: []api.Op{{Kind: api.OpConst, C: c}, {Kind: api.OpConst, C: c}, {Kind: api.OpAdd, A: 0, B: 0}, {Kind: api.OpMul, A: 0, B: 1}}, Outs: []int{2, 3, 0, 0}}
	for i := range 200 {
		x := roomyTape(d.tape())
		if i == 0 {
			x = shared
		}
		checkNew(t, fmt.Sprint("Tell ", showTape(x)), func() string { return dumpTape(x) }, func() ([]room, string) {
			z, at, e := record.Tell(x)
			return modelRooms(z), fmt.Sprint(showModel(z), at, e)
		})
	}
}

// DOC.md's P2: names are new memory too.
func TestNamesAreNew(t *testing.T) {
	m := must(t, "in long_name_of_an_input, y\nout long_name_of_an_input * y, y")
	held := map[*byte]bool{}
	for _, s := range m.Inputs {
		held[unsafe.StringData(s)] = true
	}
	for _, x := range m.Nodes {
		held[unsafe.StringData(x.Name)] = true
	}
	z, _, _ := record.Flat(m)
	names := slices.Clone(z.Inputs)
	for _, x := range z.Nodes {
		if x.Kind == api.ExprName {
			names = append(names, x.Name)
		}
	}
	for _, s := range names {
		if at := unsafe.StringData(s); held[at] {
			t.Errorf("a name shares memory: %s", s)
		} else {
			held[at] = true
		}
	}
}

// DOC.md's P3: nil and empty lists are the same.
func TestEmptyLists(t *testing.T) {
	m := must(t, "out sum(), 0")
	e := api.Model{Inputs: []string{}, Funcs: []api.Func{}, Lets: []api.Let{}, Outs: m.Outs}
	for _, x := range m.Nodes {
		if x.Kids == nil {
			x.Kids = []int{}
		}
		if x.Num.Num == nil {
			x.Num.Num = api.Nat{}
		}
		if x.Kind == api.ExprSum {
			x.Num.Den = api.Nat{}
		}
		e.Nodes = append(e.Nodes, x)
	}
	for _, way := range record.Ways() {
		a, _, f := record.Record(m, way)
		b, _, g := record.Record(e, way)
		if f != api.OK || g != api.OK || showTape(a) != showTape(b) {
			t.Errorf("%v: %s and %s", way, showTape(a), showTape(b))
		}
	}
	wantValue(t, "empty lists", e, []api.Rat{}, "0 0")
	wantValue(t, "nil lists", m, nil, "0 0")
	a, _, _ := record.Flat(m)
	if b, _, f := record.Flat(e); f != api.OK || showModel(a) != showModel(b) {
		t.Errorf("%s and %s", showModel(a), showModel(b))
	}
}

// odd are whole numbers at the edges.
func odd() []int {
	return []int{math.MinInt, math.MinInt + 1, -1025, -1, 0, 1, 2, 3, 9, 64, 65, 2048, 1 << 40, math.MaxInt}
}

// raw is a model that most likely may not be.
func (d *dice) raw() api.Model {
	names := []string{"", "x", "y", "f", "let", "u", "1", "\xff", strings.Repeat("a", 32)}
	some := func() []int {
		var l []int
		for range d.next(4) {
			l = append(l, pick(d, odd()...))
		}
		return l
	}
	m := api.Model{Outs: some()}
	for range d.next(3) {
		m.Inputs = append(m.Inputs, pick(d, names...))
	}
	for range d.next(3) {
		m.Funcs = append(m.Funcs, api.Func{Name: pick(d, names...), Params: []string{pick(d, names...)}, Body: pick(d, odd()...)})
		m.Lets = append(m.Lets, api.Let{Name: pick(d, names...), Body: pick(d, odd()...)})
	}
	for range d.next(6) {
		m.Nodes = append(m.Nodes, api.Expr{Kind: api.ExprKind(d.next(13)), Name: pick(d, names...), N: pick(d, odd()...), Num: pick(d, wrongNumbers()...), Kids: some()})
	}
	return m
}

// DOC.md's P1: no call panics, whatever it is given.
func TestNoPanic(t *testing.T) {
	t.Parallel()
	d := dice(33)
	good := models(t, 10, 300)
	for i := range 5000 {
		m := d.raw()
		if i%2 == 0 {
			// A good model with one field changed.
			m = roomyModel(pick(&d, good...))
			x := &m.Nodes[d.next(len(m.Nodes))]
			switch d.next(5) {
			case 0:
				x.Kind = api.ExprKind(d.next(13))
			case 1:
				x.Kids = append(x.Kids, pick(&d, odd()...))
			case 2:
				x.N = pick(&d, odd()...)
			case 3:
				x.Name += pick(&d, "x", "u0", "")
			case 4:
				m.Outs = append(m.Outs, pick(&d, odd()...))
			}
		}
		at, e := formula.Check(m)
		for _, way := range record.Ways() {
			n, f := record.Work(m, way)
			_, place, g := record.Record(m, way)
			if e != api.OK && (n != 0 || f != e || g != e || place != at) {
				t.Fatalf("%s: errors %d and %d, place %d, want %d, place %d", showModel(m), f, g, place, e, at)
			}
		}
		record.Value(m, wrongNumbers()[:d.next(8)])
		record.Value(m, nums("1 2 3")[:d.next(4)])
		record.Flat(m)
		x := d.tape()
		op := &x.Ops[d.next(len(x.Ops))]
		*op = api.Op{Kind: api.Kind(d.next(10)), A: pick(&d, odd()...), B: pick(&d, odd()...), N: pick(&d, odd()...), C: pick(&d, wrongNumbers()...)}
		place, f := tape.Check(x)
		if _, p, g := record.Tell(x); g != f || p != place {
			t.Fatalf("Tell(%s): place %d, error %d", showTape(x), p, g)
		}
	}
}
