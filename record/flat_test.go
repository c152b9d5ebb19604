package record_test

import (
	"fmt"
	"testing"

	"slope/api"
	"slope/formula"
	"slope/record"
)

// wantFlat fails if a model's flat one is not that of this text.
func wantFlat(t *testing.T, text, want string) {
	t.Helper()
	z, at, e := record.Flat(must(t, text))
	if at != 0 || e != api.OK || showModel(z) != showModel(must(t, want)) {
		s, _ := formula.Print(z)
		t.Errorf("Flat(%q): %q, place %d, error %d, want %q", short(text), short(s), at, e, short(want))
	}
}

// wantNoFlat fails if Flat answers anything but this error.
func wantNoFlat(t *testing.T, what string, m api.Model, e api.Errno) {
	t.Helper()
	z, at, f := record.Flat(m)
	if at != 0 || f != e || showModel(z) != showModel(api.Model{}) {
		t.Errorf("Flat(%s): %s, place %d, error %d, want error %d", what, short(showModel(z)), at, f, e)
	}
}

// P6.4: lets and functions are put in their places.
func TestFlat(t *testing.T) {
	wantFlat(t, "in x\nfn f(a) = a * a\nfn g(a) = f(f(a))\nout g(x + 1)", "in x\nout (x + 1) * (x + 1) * ((x + 1) * (x + 1))")
	wantFlat(t, whole, "in x, y\nout (x * y)^2 + x, x * y / y")
	wantFlat(t, "in x\nlet u = x / 0\nout x, 7", "in x\nout x, 7")
	wantFlat(t, "in x, y, z\nout y", "in x, y, z\nout y")
	wantFlat(t, "in x\nfn f(a, b) = b\nout f(1 / 0, x)", "in x\nout x")
	wantFlat(t, "out sum(), prod(2), sum(1, [-3/2], 3)", "out sum(), prod(2), sum(1, [-3/2], 3)")
	wantFlat(t, "in x, y\nlet u = -x\nfn f(u, x) = u - x\nout f(y, u) * x", "in x, y\nout (y - -x) * x")
	wantFlat(t, "in x\nlet u = x^2\nlet v = u + u\nout v, u, v / u", "in x\nout x^2 + x^2, x^2, (x^2 + x^2) / x^2")
	wantFlat(t, "in x\nfn f() = 3\nout f() * x, sum(f(), f())", "in x\nout 3 * x, sum(3, 3)")
}

// P6.4: nodes in another order are numbered as a text's are.
func TestFlatTidies(t *testing.T) {
	x := api.Expr{Kind: api.ExprName, Name: "x"}
	m := api.Model{Inputs: []string{"x"}, Nodes: []api.Expr{x, {Kind: api.ExprNumber, Num: num("2")}, x, {Kind: api.ExprNeg, Kids: []int{0}}, {Kind: api.ExprSub, Kids: []int{2, 1}}}, Outs: []int{4, 3}}
	z, _, e := record.Flat(m)
	if want := must(t, "in x\nout x - 2, -x"); e != api.OK || showModel(z) != showModel(want) {
		t.Errorf("%s, error %d, want %s", showModel(z), e, showModel(want))
	}
	d := dice(8)
	for _, m := range models(t, 5, 500) {
		z, _, e := record.Flat(m)
		if e != api.OK {
			continue
		}
		if tidy, f := formula.Tidy(z); f != api.OK || showModel(tidy) != showModel(z) || len(z.Funcs)+len(z.Lets) > 0 {
			t.Fatalf("Flat(%s) is not tidy: %s", showModel(m), showModel(z))
		}
		if again, _, f := record.Flat(z); f != api.OK || showModel(again) != showModel(z) {
			t.Fatalf("Flat of a flat one: %s, error %d, want %s", showModel(again), f, showModel(z))
		}
		at := d.point(len(m.Inputs))
		a, place, e := record.Value(m, at)
		b, spot, f := record.Value(z, at)
		if showRats(a) != showRats(b) || place != spot || e != f {
			t.Fatalf("Flat(%s) has other values", showModel(m))
		}
	}
}

// P6.4: a model of MaxModel nodes and one more; works of MaxUnroll and one more.
func TestMostFlat(t *testing.T) {
	t.Parallel()
	lets := func(k, n int) string {
		return fmt.Sprintf("in x\nlet u = sum(%s)\nout sum(%s)", repeat("x", k), repeat("u", n))
	}
	calls := func(k, n int) string {
		return fmt.Sprintf("in x\nfn f(a) = sum(%s)\nout f(sum(%s))", repeat("a", n), repeat("x", k))
	}
	for what, text := range map[string]func(k, n int) string{"lets": lets, "calls": calls} {
		z, _, e := record.Flat(must(t, text(64, 63)))
		if e != api.OK || len(z.Nodes) != api.MaxModel {
			t.Errorf("%s: %d nodes, error %d", what, len(z.Nodes), e)
		}
		if _, f := formula.Check(z); f != api.OK {
			t.Errorf("%s: Check answers error %d", what, f)
		}
		wantNoFlat(t, what, must(t, text(63, 64)), api.ErrModel)
	}
	// Several outputs together.
	z, _, e := record.Flat(must(t, lets(64, 62)+", sum("+repeat("x", 64)+")"))
	if e != api.OK || len(z.Nodes) != api.MaxModel {
		t.Errorf("two outputs: %d nodes, error %d", len(z.Nodes), e)
	}
	wantNoFlat(t, "two outputs", must(t, lets(64, 62)+", sum("+repeat("x", 65)+")"), api.ErrModel)

	wantFlat(t, identities(14, "out fB(x), x"), "in x\nout x, x")
	wantNoFlat(t, "a work of one more", must(t, identities(14, "out fB(x), -x")), api.ErrNodes)
	// The work is what it is with Copy.
	wantNoFlat(t, "copied lets", must(t, longLets(254, 256)), api.ErrNodes)
	wantNoFlat(t, "copied lets, as many as may be", must(t, longLets(255, 255)), api.ErrModel)
}

// P6.4: squares of squares are told to be too many without being laid down.
func TestHugeFlat(t *testing.T) {
	for _, n := range []int{11, 12, 63, 64, 100, 1000} {
		text := "in x\nfn f0(a) = a * a\n"
		for i := 1; i <= n; i++ {
			text += fmt.Sprintf("fn f%d(a) = f%d(a * a)\n", i, i-1)
		}
		wantNoFlat(t, fmt.Sprint(n, " squares"), must(t, text+fmt.Sprintf("out f%d(x)", n)), api.ErrModel)
	}
	text := "in x\nfn s(a) = a * a\nout s(s(s(s(s(s(s(s(s(s(s(x)))))))))))"
	if z, _, e := record.Flat(must(t, text)); e != api.OK || len(z.Nodes) != 4095 {
		t.Errorf("eleven squares: %d nodes, error %d", len(z.Nodes), e)
	}
}
