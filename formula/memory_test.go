package formula_test

import (
	"fmt"
	"math"
	"slices"
	"strings"
	"testing"
	"unsafe"

	"slope/api"
	"slope/formula"
)

// roomy is a copy of a list with three marks behind its end.
func roomy[T any](l []T, mark T) []T { return append(slices.Clone(l), mark, mark, mark)[:len(l)] }

// roomyModel is a copy of a model all of whose lists have such room.
func roomyModel(m api.Model) api.Model {
	z := api.Model{Inputs: roomy(m.Inputs, "mark"), Outs: roomy(m.Outs, -9)}
	for _, f := range m.Funcs {
		f.Params = roomy(f.Params, "mark")
		z.Funcs = append(z.Funcs, f)
	}
	for _, x := range m.Nodes {
		x.Kids = roomy(x.Kids, -9)
		x.Num.Num, x.Num.Den = roomy(x.Num.Num, 0xa5a5a5a5), roomy(x.Num.Den, 0xa5a5a5a5)
		z.Nodes = append(z.Nodes, x)
	}
	z.Lets = roomy(m.Lets, api.Let{Name: "mark", Body: -9})
	z.Funcs = roomy(z.Funcs, api.Func{Name: "mark", Params: []string{"mark"}, Body: -9})
	z.Nodes = roomy(z.Nodes, api.Expr{Kind: 99, Name: "mark", N: -9, Kids: []int{-9}})
	return z
}

// all is a list with the room behind its end.
func all[T any](l []T) []T { return l[:cap(l)] }

// dump is a text of all that can be reached from a model, rooms too.
func dump(m api.Model) string {
	s := fmt.Sprint(all(m.Inputs), all(m.Outs), all(m.Lets))
	for _, f := range all(m.Funcs) {
		s += fmt.Sprint(f.Name, f.Body, all(f.Params))
	}
	for _, x := range all(m.Nodes) {
		s += fmt.Sprint(x.Kind, x.Name, x.N, x.Num.Neg, all(x.Num.Num), all(x.Num.Den), all(x.Kids))
	}
	return s
}

// room is one list of a model, with the room behind its end.
type room struct {
	write func()
	text  func() string
}

// roomOf is that of a list.
func roomOf[T any](l []T, mark T) room {
	l = all(l)
	return room{func() {
		for i := range l {
			l[i] = mark
		}
	}, func() string { return fmt.Sprint(l) }}
}

// rooms are all lists of a model.
func rooms(m api.Model) []room {
	l := []room{
		roomOf(m.Inputs, "mark"), roomOf(m.Outs, -5), roomOf(m.Lets, api.Let{}), roomOf(m.Funcs, api.Func{}), roomOf(m.Nodes, api.Expr{}),
	}
	for _, f := range m.Funcs {
		l = append(l, roomOf(f.Params, "mark"))
	}
	for _, x := range m.Nodes {
		l = append(l, roomOf(x.Kids, -5), roomOf(x.Num.Num, 0xa5a5a5a5), roomOf(x.Num.Den, 0xa5a5a5a5))
	}
	return l
}

// held are models of all kinds.
func held() []api.Model {
	d := dice(13)
	l := []api.Model{small(), chain(70, op(api.ExprNeg)), list(num("1"), num("-2/3"), num("0")), {}, {Outs: []int{3}}, {Outs: []int{0}, Nodes: []api.Expr{{Kind: 99}}}}
	for range 60 {
		l = append(l, d.sketch(3).mixed(&d))
	}
	return l
}

// DOC.md's P2: what is handed in stays as it was, its room too.
func TestArgumentsStay(t *testing.T) {
	for _, m := range held() {
		h, g := roomyModel(m), roomyModel(m)
		before := dump(h)
		formula.Check(h)
		formula.Tidy(h)
		formula.Print(h)
		formula.Uses(h)
		formula.Alike(h, g)
		formula.Alike(g, h)
		if dump(h) != before || dump(g) != before {
			t.Errorf("an argument was changed: %s", show(m))
		}
	}
}

// DOC.md's P2: Tidy's model is new memory, and so is each of its lists.
func TestTidyIsNew(t *testing.T) {
	for _, m := range held() {
		h := roomyModel(m)
		before := dump(h)
		n, e := formula.Tidy(h)
		want := show(n)
		for _, r := range rooms(n) {
			r.write()
		}
		if dump(h) != before {
			t.Fatalf("an answer shares memory with an argument: %s", show(m))
		}
		if again, f := formula.Tidy(h); e != f || show(again) != want {
			t.Fatalf("another answer the second time: %s", show(m))
		}
		n, _ = formula.Tidy(h)
		checkApart(t, n)
	}
}

// checkApart writes over one list of an answer after the other, and looks whether another one has changed. (The lists of functions and nodes have others within them: they come last.)
func checkApart(t *testing.T, m api.Model) {
	t.Helper()
	l := rooms(m)
	l = append(l[5:], l[:5]...)
	var was []string
	for _, r := range l {
		was = append(was, r.text())
	}
	for i, r := range l {
		for j := i; j < len(l)-2; j++ {
			if l[j].text() != was[j] {
				t.Fatalf("two lists of one answer share memory: list %d", j)
			}
		}
		r.write()
	}
}

// DOC.md's P2: Parse's model and Tokens' list are new each time, and no two lists share memory.
func TestParseIsNew(t *testing.T) {
	for _, text := range []string{
		"in x, y\nlet u = x*y + 1.5\nout u^2/(x - y), sum(x, u), 1.5, [3/2], 1", "in x\nfn f(a, x) = a * x\nfn g() = 1\nout f(x, f(2, 3)), prod(1, 2, 3, 4, 5, 6, 7), 0", "out 1",
	} {
		want := show(must(t, text))
		for _, r := range rooms(must(t, text)) {
			r.write()
		}
		if show(must(t, text)) != want {
			t.Errorf("another model the second time: %q", text)
		}
		checkApart(t, must(t, text))
		l, _, _ := formula.Tokens(text)
		was := slices.Clone(l)
		clear(all(l))
		if l, _, _ = formula.Tokens(text); !slices.Equal(l, was) {
			t.Errorf("other tokens the second time: %q", text)
		}
	}
}

// inside tells whether a text lies in another one's memory.
func inside(s, text string) bool {
	at, from := uintptr(unsafe.Pointer(unsafe.StringData(s))), uintptr(unsafe.Pointer(unsafe.StringData(text)))
	return len(s) > 0 && from <= at && at < from+uintptr(len(text))
}

// textsOf are all texts of a model.
func textsOf(m api.Model) []string {
	l := slices.Clone(m.Inputs)
	for _, f := range m.Funcs {
		l = append(append(l, f.Name), f.Params...)
	}
	for _, v := range m.Lets {
		l = append(l, v.Name)
	}
	for _, x := range m.Nodes {
		l = append(l, x.Name)
	}
	return l
}

// DOC.md's P2: a text that is handed in is not kept, not even a piece of it.
func TestTextsAreNew(t *testing.T) {
	text := strings.Repeat(" ", 100) + "in x, long_name\nfn f(a, b) = a * b\nlet u = f(x, 2)\nout f(u, long_name)"
	l, _, _ := formula.Tokens(text)
	m := must(t, text)
	for _, s := range append(l, textsOf(m)...) {
		if inside(s, text) {
			t.Errorf("%q is a piece of the text", s)
		}
	}
	n, _ := formula.Tidy(m)
	for _, s := range textsOf(n) {
		if slices.ContainsFunc(textsOf(m), func(old string) bool { return inside(s, old) }) {
			t.Errorf("%q is the model's that was handed in", s)
		}
	}
}

// DOC.md's P1: no call panics, whatever it is given.
func TestNoPanic(t *testing.T) {
	t.Parallel()
	odd := []int{math.MinInt, math.MinInt + 1, -1025, -1, 0, 1, 2, 11, 12, 1025, 1 << 32, math.MaxInt}
	names := append(noNames(), "x", "f", "u")
	numbers := append(wrongNumbers(), num("1"))
	d := dice(14)
	for i := range 3000 {
		var m api.Model
		for range d.next(4) {
			m.Inputs = append(m.Inputs, pick(&d, names...))
		}
		for range d.next(5) {
			x := api.Expr{Kind: api.ExprKind(pick(&d, odd...)), Name: pick(&d, names...), Num: pick(&d, numbers...), N: pick(&d, odd...), Kids: []int{pick(&d, odd...)}}
			if d.next(3) > 0 {
				x = pick(&d, name("x"), number("1"), op(api.ExprSum), op(api.ExprNeg, pick(&d, odd...)), power(pick(&d, odd...), 0), call("f", pick(&d, odd...)))
			}
			m.Nodes = append(m.Nodes, x)
		}
		for range d.next(2) {
			m.Funcs = append(m.Funcs, api.Func{Name: pick(&d, "f", pick(&d, names...)), Params: []string{pick(&d, names...)}, Body: pick(&d, odd...)})
			m.Lets = append(m.Lets, api.Let{Name: pick(&d, "u", pick(&d, names...)), Body: pick(&d, odd...)})
		}
		for range d.next(3) {
			m.Outs = append(m.Outs, pick(&d, odd...))
		}
		wantAt, want := plainCheck(m)
		if want == api.OK {
			wantAt = 0
		}
		wantCheck(t, fmt.Sprint("model ", i), m, wantAt, want)
	}
	for c := range 256 {
		s := string([]byte{byte(c)})
		for _, text := range []string{s, "out " + s, "out 1" + s, strings.Repeat(s, 3), strings.Repeat(s, 16384), strings.Repeat(s, 65536), strings.Repeat(s, 65537), "out " + strings.Repeat(s, 16382), "out 1" + strings.Repeat(s+"1", 8000)} {
			formula.Tokens(text)
			formula.Parse(text)
		}
	}
}
