package formula_test

import (
	"fmt"
	"slices"
	"strings"
	"testing"

	"slope/api"
	"slope/formula"
)

// wantUses fails if these are not the inputs, functions and lets that are needed, a digit each.
func wantUses(t *testing.T, m api.Model, inputs, funcs, lets string) {
	t.Helper()
	a, b, c, e := formula.Uses(m)
	if e != api.OK || bits(a) != inputs || bits(b) != funcs || bits(c) != lets {
		s, _ := formula.Print(m)
		t.Errorf("Uses of %q: %v, %v, %v, error %d, want %s, %s, %s", short(s), a, b, c, e, inputs, funcs, lets)
	}
}

// bits are a list's digits.
func bits(l []int) string {
	s := ""
	for _, n := range l {
		s += fmt.Sprint(n)
	}
	return s
}

// P4.7
func TestUses(t *testing.T) {
	for _, c := range []struct{ text, inputs, funcs, lets string }{
		{"in x, y\nfn f(a) = a\nfn g(a) = f(a)\nlet u = y\nlet v = g(u)\nout v", "01", "11", "11"},
		{"out 1", "", "", ""},
		{"in x, y\nout y, y", "01", "", ""},
		{"in x\nlet u = x\nout 1", "0", "", "0"},
		{"in x\nlet u = x\nlet v = u\nout u", "1", "", "10"},
		{"in x\nlet u = x\nlet v = u\nlet w = v\nout w", "1", "", "111"},
		{"in x\nfn f(x) = x\nout f(1)", "0", "1", ""},
		{"in x, y\nfn f(x, y) = x\nlet u = f(2, 3)\nout sum(u)", "00", "1", "1"},
		{"in x, y\nfn f(a, b) = b\nout f(x, y)", "11", "1", ""},
		{"in x, y\nfn f(a) = a\nfn g(a) = f(a)\nfn h(a) = g(a)\nout g(x)", "10", "110", ""},
		{"in x, y\nfn f(a) = a\nfn g(a) = f(a)\nlet u = g(y)\nout x", "10", "00", "0"},
		{"fn f() = 1\nfn g() = f()\nfn h() = g()\nlet u = h()\nout -u^2", "", "111", "1"},
		{"in f1\nfn f(u) = u\nlet u = f1\nout f(3)", "0", "1", "0"},
		{"in x, y, z\nout sum(x, prod(-z^2)), 0 * y", "111", "", ""},
	} {
		wantUses(t, must(t, c.text), c.inputs, c.funcs, c.lets)
	}
}

// plainUses goes round until nothing more is needed.
func plainUses(s sketch) (string, string, string) {
	need := map[string]bool{}
	var walk func(p *part, outside bool)
	walk = func(p *part, outside bool) {
		if p.x.Kind == api.ExprCall || p.x.Kind == api.ExprName && outside {
			need[p.x.Name] = true
		}
		for _, k := range p.kids {
			walk(k, outside)
		}
	}
	for _, p := range s.outs {
		walk(p, true)
	}
	for range len(s.lets) + len(s.funcs) {
		for _, l := range s.lets {
			if need[l.name] {
				walk(l.top, true)
			}
		}
		for _, f := range s.funcs {
			if need[f.name] {
				walk(f.top, false)
			}
		}
	}
	digits := func(l []string) string {
		z := ""
		for _, n := range l {
			z += map[bool]string{false: "0", true: "1"}[need[n]]
		}
		return z
	}
	names := func(l []body) []string {
		var z []string
		for _, b := range l {
			z = append(z, b.name)
		}
		return z
	}
	return digits(s.inputs), digits(names(s.funcs)), digits(names(s.lets))
}

// P4.7: models at random, however their nodes are numbered.
func TestUsesAtRandom(t *testing.T) {
	t.Parallel()
	d := dice(12)
	seen := map[string]int{}
	for range 5000 {
		s := d.sketch(1 + d.next(3))
		a, b, c := plainUses(s)
		wantUses(t, s.mixed(&d), a, b, c)
		seen[a+"/"+b+"/"+c]++
	}
	if len(seen) < 100 {
		t.Errorf("%d answers alone", len(seen))
	}
}

// P4.7: as many functions and lets as there can be, each needed by the next one.
func TestUsesMany(t *testing.T) {
	m := api.Model{Nodes: []api.Expr{number("1")}, Funcs: []api.Func{{Name: "f0", Body: 0}}}
	for i := 1; i < 2000; i++ {
		m.Funcs = append(m.Funcs, api.Func{Name: fmt.Sprintf("f%d", i), Body: i})
		m.Nodes = append(m.Nodes, call(fmt.Sprintf("f%d", i-1)))
	}
	m.Lets = []api.Let{{Name: "u0", Body: 2000}}
	m.Nodes = append(m.Nodes, call("f1998"))
	for i := 1; i < 2000; i++ {
		m.Lets = append(m.Lets, api.Let{Name: fmt.Sprintf("u%d", i), Body: 2000 + i})
		m.Nodes = append(m.Nodes, name(fmt.Sprintf("u%d", i-1)))
	}
	m.Nodes = append(m.Nodes, name("u1998"))
	m.Outs = []int{4000}
	wantUses(t, m, "", strings.Repeat("1", 1999)+"0", strings.Repeat("1", 1999)+"0")
	m.Nodes[4000] = number("1")
	wantUses(t, m, "", strings.Repeat("0", 2000), strings.Repeat("0", 2000))
}

// P4.7: three lists of their own, new each time.
func TestUsesLists(t *testing.T) {
	m := small()
	a, b, c, _ := formula.Uses(m)
	for _, l := range [][]int{a, b, c} {
		for i := range l[:cap(l)] {
			l[:cap(l)][i] = 7
		}
	}
	a2, b2, c2, _ := formula.Uses(m)
	if !slices.Equal(a2, []int{1, 1}) || !slices.Equal(b2, []int{1, 1}) || !slices.Equal(c2, []int{1, 1}) {
		t.Errorf("%v %v %v", a2, b2, c2)
	}
}
