package symbolic_test

import (
	"math"
	"slices"
	"strings"
	"testing"

	"slope/api"
	"slope/formula"
	"slope/symbolic"
)

// spoiled are models that formula.Check refuses, each with what is wrong with it.
func spoiled(t *testing.T) map[string]api.Model {
	l := map[string]api.Model{}
	spoil := func(what string, do func(m *api.Model)) {
		m := must(t, "in x, y\nfn f(a) = a * 2\nlet u = x + y\nout f(u), x^2")
		do(&m)
		l[what] = m
	}
	spoil("nothing", func(m *api.Model) { *m = api.Model{} })
	spoil("too many inputs", func(m *api.Model) { m.Inputs = make([]string, 65) })
	spoil("no outputs", func(m *api.Model) { m.Outs = nil })
	spoil("too many outputs", func(m *api.Model) { m.Outs = make([]int, 65) })
	spoil("too many nodes", func(m *api.Model) { m.Nodes = make([]api.Expr, 4097) })
	spoil("a name that is none", func(m *api.Model) { m.Inputs[1] = "sum" })
	spoil("a name twice", func(m *api.Model) { m.Lets[0].Name = "y" })
	spoil("a kind that is none", func(m *api.Model) { m.Nodes[2].Kind = 12 })
	spoil("a field too many", func(m *api.Model) { m.Nodes[1].N = 1 })
	spoil("a later kid", func(m *api.Model) { m.Nodes[2].Kids[0] = 5 })
	spoil("a power too great", func(m *api.Model) { m.Nodes[len(m.Nodes)-1].N = 1025 })
	spoil("a number that may not be", func(m *api.Model) { m.Nodes[1].Num = api.Rat{Num: api.Nat{2}, Den: api.Nat{2}} })
	spoil("an output that is no node", func(m *api.Model) { m.Outs[1] = 99 })
	spoil("a node that is not used", func(m *api.Model) { m.Nodes = append(m.Nodes, api.Expr{Kind: api.ExprSum}) })
	spoil("a name that means nothing", func(m *api.Model) { m.Nodes[3].Name = "z" })
	spoil("a call of too few", func(m *api.Model) { m.Funcs[0].Params = append(m.Funcs[0].Params, "b") })
	return l
}

// all calls with right and wrong numbers beside the model.
func wrongCalls() []call {
	l := []call{{name: "Simplify"}, {name: "Text"}}
	for _, i := range []int{0, 1, 2, -1, math.MinInt, math.MaxInt} {
		l = append(l, call{name: "Diff", one: i}, call{name: "Gradient", one: i})
		for _, j := range []int{0, -1, 2, math.MaxInt} {
			l = append(l, call{name: "Second", one: i, two: j}, call{name: "Second", one: j, two: i})
		}
		for _, c := range append(wrongNumbers(), num("-7/3")) {
			l = append(l, call{name: "Fix", one: i, c: c})
		}
	}
	return l
}

// DOC.md's P4, the section 'Promises': formula.Check's errors with its places, ahead of all others.
func TestModelFaults(t *testing.T) {
	for what, m := range spoiled(t) {
		at, e := formula.Check(m)
		if e == api.OK {
			t.Fatalf("%s: the model may be", what)
		}
		for _, c := range wrongCalls() {
			wantFault(t, what, m, c, at, e)
		}
		good := must(t, "out 1")
		if symbolic.Same(m, m) || symbolic.Same(m, good) || symbolic.Same(good, m) {
			t.Errorf("%s: Same", what)
		}
	}
}

// P15.2 to P15.4: ErrVariable of inputs and outputs that there are not; of Fix ErrRat ahead of it; both ahead of ErrNodes and of the limits.
func TestVariableFaults(t *testing.T) {
	huge := "fn f(a) = " + "a" + strings.Repeat(" + a", 300) + "\nfn g(a) = f(f(f(f(f(f(f(a)))))))\nfn h(a) = " + strings.Repeat("g(g(g(", 20) + "a" + strings.Repeat(")))", 20) + "\n"
	for what, text := range map[string]string{
		"plain":                "in x, y\nout x * y, x",
		"a pole":               "in x, y\nout x / 0, x",
		"too much work":        "in x, y\n" + huge + "out h(x), x",
		"one output":           "in x, y\nout x",
		"no inputs":            "out 1, 2, 3",
		"no inputs and a pole": "out 1 / 0, 2",
	} {
		m := must(t, text)
		for _, c := range wrongCalls() {
			at, e := c.early(m)
			if e != api.OK {
				wantFault(t, what, m, c, at, e)
			}
		}
	}
	m := must(t, "in x, y\nout x * y, x, y")
	for _, i := range []int{-1, 2, 3, 64, -65, math.MaxInt, math.MinInt, 1 << 32, -1 << 32} {
		wantFault(t, "no input", m, diff(i), 0, api.ErrVariable)
		wantFault(t, "no input", m, second(i, 0), 0, api.ErrVariable)
		wantFault(t, "no input", m, second(1, i), 0, api.ErrVariable)
		wantFault(t, "no input", m, fix(i, "1"), 0, api.ErrVariable)
		if i != 2 {
			wantFault(t, "no output", m, gradient(i), 0, api.ErrVariable)
		}
		for _, c := range wrongNumbers() {
			wantFault(t, "no number", m, call{name: "Fix", one: i, c: c}, 0, api.ErrRat)
		}
	}
	wantForms(t, "in x, y\nout x * y, x, y", gradient(2), "0 1")
	wantFault(t, "no inputs", must(t, "out 1"), gradient(0), 0, api.ErrVariable)
	wantFault(t, "no inputs", must(t, "out 1"), diff(0), 0, api.ErrVariable)
	wantFault(t, "too much work", must(t, "in x, y\n"+huge+"out h(x), x"), diff(2), 0, api.ErrVariable)
	wantFault(t, "too much work", must(t, "in x, y\n"+huge+"out h(x), x"), diff(1), 0, api.ErrNodes)
	wantFault(t, "a pole behind", must(t, "in x, y\n"+huge+"out 1 / 0, h(x)"), fix(0, "0"), 0, api.ErrNodes)
}

// odd are whole numbers at the edges.
func odd() []int {
	return []int{math.MinInt, math.MinInt + 1, -1025, -1, 0, 1, 2, 3, 9, 64, 65, 2048, 1 << 40, math.MaxInt}
}

// raw is a model that most likely may not be.
func (d *dice) raw() api.Model {
	names := []string{"", "x", "y", "f", "let", "u", "1", "\xff", strings.Repeat("a", 32)}
	some := func() []int {
		var l []int
		for range d.next(4) {
			l = append(l, pick(d, odd()...))
		}
		return l
	}
	m := api.Model{Outs: some()}
	for range d.next(3) {
		m.Inputs = append(m.Inputs, pick(d, names...))
	}
	for range d.next(3) {
		m.Funcs = append(m.Funcs, api.Func{Name: pick(d, names...), Params: []string{pick(d, names...)}, Body: pick(d, odd()...)})
		m.Lets = append(m.Lets, api.Let{Name: pick(d, names...), Body: pick(d, odd()...)})
	}
	for range d.next(6) {
		m.Nodes = append(m.Nodes, api.Expr{Kind: api.ExprKind(d.next(13)), Name: pick(d, names...), N: pick(d, odd()...), Num: pick(d, wrongNumbers()...), Kids: some()})
	}
	return m
}

// DOC.md's P1, P7: no call panics, whatever it is given, and each answers what the order of errors asks for.
func TestNoPanic(t *testing.T) {
	t.Parallel()
	d := dice(33)
	good := models(t, 10, tame, 300)
	wrong, right := 0, 0
	for i := range 4000 {
		m := d.raw()
		if i%2 == 0 {
			// A good model with one field changed.
			m = roomyModel(pick(&d, good...))
			x := &m.Nodes[d.next(len(m.Nodes))]
			switch d.next(6) {
			case 0:
				x.Kind = api.ExprKind(d.next(13))
			case 1:
				x.Kids = append(x.Kids, pick(&d, odd()...))
			case 2:
				x.N = pick(&d, odd()...)
			case 3:
				x.Name += pick(&d, "x", "u0", "")
			case 4:
				m.Outs = append(m.Outs, pick(&d, odd()...))
			case 5:
				slices.Reverse(m.Inputs)
			}
		}
		for _, name := range []string{"Simplify", "Text", "Diff", "Gradient", "Second", "Fix"} {
			c := call{name: name, one: pick(&d, odd()...), two: pick(&d, odd()...), c: pick(&d, append(wrongNumbers(), num("2/3"))...)}
			at, e := c.early(m)
			a := c.do(m)
			if e == api.OK {
				right++
				continue
			}
			wrong++
			if want := (answer{at: at, e: e}); a.show() != want.show() {
				t.Fatalf("%s(%s): %s, want %s", c.show(), showModel(m), a.show(), want.show())
			}
		}
		symbolic.Same(m, d.raw())
		symbolic.Same(pick(&d, good...), m)
	}
	if wrong < 10000 || right < 500 {
		t.Errorf("too little was met: %d calls that are refused, %d that are not", wrong, right)
	}
}
