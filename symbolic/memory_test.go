package symbolic_test

import (
	"fmt"
	"slices"
	"strings"
	"testing"
	"unsafe"

	"slope/api"
	"slope/symbolic"
)

// roomy is a copy of a list with three marks behind its end.
func roomy[T any](l []T, mark T) []T { return append(slices.Clone(l), mark, mark, mark)[:len(l)] }

// roomyRat is a copy of a number whose lists have such room.
func roomyRat(r api.Rat) api.Rat {
	return api.Rat{Neg: r.Neg, Num: roomy(r.Num, 0xa5a5a5a5), Den: roomy(r.Den, 0xa5a5a5a5)}
}

// roomyModel is a copy of a model all of whose lists have such room.
func roomyModel(m api.Model) api.Model {
	z := api.Model{Inputs: roomy(m.Inputs, "let"), Lets: roomy(m.Lets, api.Let{Name: "!", Body: -9}), Outs: roomy(m.Outs, -9)}
	for _, f := range m.Funcs {
		f.Params = roomy(f.Params, "!")
		z.Funcs = append(z.Funcs, f)
	}
	z.Funcs = roomy(z.Funcs, api.Func{Name: "!", Body: -9})
	for _, x := range m.Nodes {
		x.Kids, x.Num = roomy(x.Kids, -9), roomyRat(x.Num)
		z.Nodes = append(z.Nodes, x)
	}
	z.Nodes = roomy(z.Nodes, api.Expr{Kind: 99, Name: "!", N: -9})
	return z
}

// all is a list with the room behind its end.
func all[T any](l []T) []T { return l[:cap(l)] }

// dumpRat is a text of all that can be reached from a number, rooms too.
func dumpRat(r api.Rat) string { return fmt.Sprint(r.Neg, all(r.Num), all(r.Den)) }

// dumpModel is a text of all that can be reached from a model, rooms too.
func dumpModel(m api.Model) string {
	var s strings.Builder
	fmt.Fprint(&s, all(m.Inputs), all(m.Lets), all(m.Outs))
	for _, f := range all(m.Funcs) {
		fmt.Fprint(&s, f.Name, all(f.Params), f.Body)
	}
	for _, x := range all(m.Nodes) {
		fmt.Fprint(&s, x.Kind, x.Name, dumpRat(x.Num), x.N, all(x.Kids))
	}
	return s.String()
}

// room is one list of an answer, with the room behind its end.
type room struct {
	write func()
	text  func() string
}

// roomOf is that of a list.
func roomOf[T any](l []T, mark T) room {
	l = all(l)
	return room{func() {
		for i := range l {
			l[i] = mark
		}
	}, func() string { return fmt.Sprint(l) }}
}

// rooms are all lists of an answer; the last has others within it.
func (a answer) rooms() []room {
	l := []room{roomOf(a.texts, "!"), roomOf(a.m.Inputs, "!"), roomOf(a.m.Outs, -5)}
	for _, x := range a.m.Nodes {
		l = append(l, roomOf(x.Num.Num, 0xa5a5a5a5), roomOf(x.Num.Den, 0xa5a5a5a5), roomOf(x.Kids, -5))
	}
	return append(l, roomOf(a.m.Nodes, api.Expr{}))
}

// checkApart writes over one list of an answer after the other, and looks whether another one has changed.
func checkApart(t *testing.T, what string, l []room) {
	t.Helper()
	var was []string
	for _, r := range l {
		was = append(was, r.text())
	}
	for i, r := range l {
		for j := i; j < len(l)-1; j++ {
			if l[j].text() != was[j] {
				t.Fatalf("%s: two lists of one answer share memory: list %d", what, j)
			}
		}
		r.write()
	}
}

// heldModels are models of all kinds; in some of them one number's memory stands at several nodes, or what is answered stands there already.
func heldModels(t *testing.T) []api.Model {
	t.Helper()
	c := num("-12345678901234567890/7")
	n := api.Expr{Kind: api.ExprNumber, Num: c}
	l := []api.Model{
		must(t, "in x, y\nlet u = x * [12345678901234567890/7] + y\nout u, u, u^2, u^2 * u, [12345678901234567890/7], x, x"),
		must(t, "in x\nlet u = 2 + 3\nfn f(a) = a * a\nout u, u, f(u), f(7), x, x, 5, sum(u, u), x / x, x - x"),
		must(t, "in x, y\nout prod(x, [-3/2]), sum(x, y, 5), sum(x, 5)^2, prod(sum(x, 5)^2, [7/3])"),
		must(t, "in x, y\nout (x + y)^2 * x, (x + y)^2 * y, (x + y)^3, ((x + y)^2 + 9)^2 + ((x + y)^2 + 9)^3"),
		{Nodes: []api.Expr{n, n, n, {Kind: api.ExprAdd, Kids: []int{0, 1}}}, Outs: []int{3, 2}},
		{Inputs: []string{"x"}, Nodes: []api.Expr{n, {Kind: api.ExprName, Name: "x"}, {Kind: api.ExprMul, Kids: []int{0, 1}}, n, {Kind: api.ExprAdd, Kids: []int{2, 3}}}, Outs: []int{4}},
	}
	for _, m := range spoiled(t) {
		if len(m.Nodes) < 100 {
			l = append(l, m)
		}
	}
	return append(l, models(t, 9, tame, 60)...)
}

// heldCalls are calls with a number whose lists have room.
func heldCalls(m api.Model, c api.Rat) []call {
	l := calls(m)
	for i := range l {
		if l[i].name == "Fix" {
			l[i].c = c
		}
	}
	return append(l, call{name: "Diff", one: -1}, call{name: "Fix", one: 99, c: c})
}

// DOC.md's P2: what is handed in stays as it was, its room too; and answers are memory of their own, each of their lists.
func TestMemory(t *testing.T) {
	t.Parallel()
	for _, m := range heldModels(t) {
		h, number := roomyModel(m), roomyRat(num("-98765432109876543210/11"))
		before := dumpModel(h) + dumpRat(number)
		for _, c := range heldCalls(m, number) {
			what := c.show() + " of " + told(m)
			a := c.do(h)
			want := a.show()
			if dumpModel(h)+dumpRat(number) != before {
				t.Fatalf("%s: an argument was changed", what)
			}
			for _, r := range a.rooms() {
				r.write()
			}
			if dumpModel(h)+dumpRat(number) != before {
				t.Fatalf("%s: an answer shares memory with an argument", what)
			}
			again := c.do(h)
			if again.show() != want {
				t.Fatalf("%s: another answer the second time: %s, want %s", what, short(again.show()), short(want))
			}
			checkApart(t, what, again.rooms())
		}
		symbolic.Same(h, h)
		if dumpModel(h)+dumpRat(number) != before {
			t.Fatalf("Same of %s: an argument was changed", told(m))
		}
	}
}

// DOC.md's P2: names and texts are new memory too.
func TestNamesAreNew(t *testing.T) {
	m := must(t, "in long_name_of_an_input, y\nlet u = long_name_of_an_input * y\nout u, u, u + y, y, y, long_name_of_an_input^2 * y + u")
	held := map[*byte]bool{}
	for _, s := range m.Inputs {
		held[unsafe.StringData(s)] = true
	}
	for _, x := range m.Nodes {
		held[unsafe.StringData(x.Name)] = true
	}
	for _, c := range calls(m) {
		a := c.do(m)
		texts := append(slices.Clone(a.m.Inputs), a.texts...)
		for _, x := range a.m.Nodes {
			if x.Kind == api.ExprName {
				texts = append(texts, x.Name)
			}
		}
		seen := map[*byte]bool{}
		for _, s := range texts {
			at := unsafe.StringData(s)
			if held[at] || seen[at] {
				t.Errorf("%s: a text shares memory: %s", c.show(), s)
			}
			seen[at] = true
		}
	}
}

// DOC.md's P3: nil and empty lists are the same.
func TestEmptyLists(t *testing.T) {
	m := must(t, "out sum(), 0, prod(sum(), 2)")
	e := api.Model{Inputs: []string{}, Funcs: []api.Func{}, Lets: []api.Let{}, Outs: m.Outs}
	for _, x := range m.Nodes {
		if x.Kids == nil {
			x.Kids = []int{}
		}
		if x.Num.Num == nil {
			x.Num.Num = api.Nat{}
		}
		if x.Kind != api.ExprNumber {
			x.Num.Den = api.Nat{}
		}
		e.Nodes = append(e.Nodes, x)
	}
	for _, c := range calls(m) {
		a, b := c.do(m), c.do(e)
		if a.e != api.OK || a.show() != b.show() {
			t.Errorf("%s: %s and %s", c.show(), a.show(), b.show())
		}
	}
	if !symbolic.Same(m, e) || !symbolic.Same(e, m) {
		t.Error("Same of nil and empty lists")
	}
}
