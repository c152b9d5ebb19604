package symbolic_test

import (
	"slices"
	"testing"

	"slope/api"
	"slope/formula"
	"slope/rational"
	"slope/record"
	"slope/sweep"
	"slope/symbolic"
)

// units are the directions of zeros and a 1.
func units(n int) [][]api.Rat {
	var l [][]api.Rat
	for i := range n {
		u := make([]api.Rat, n)
		for j := range u {
			u[j] = rational.FromInt(0)
		}
		u[i] = rational.FromInt(1)
		l = append(l, u)
	}
	return l
}

// P15.6: where a model has values, so has what is made of it, and Simplify's are the same.
func TestValuesStay(t *testing.T) {
	t.Parallel()
	d := dice(11)
	n := met{}
	for _, m := range models(t, 12, tame, 2500) {
		at := d.point(len(m.Inputs))
		want, _, e := record.Value(m, at)
		if e != api.OK {
			n["no value"]++
			continue
		}
		for _, c := range calls(m) {
			if c.name == "Text" || c.name == "Fix" {
				continue
			}
			a := c.do(m)
			if a.e != api.OK {
				// A model with a value may have no normal form, but then no pole is the cause.
				if a.e == api.ErrPole {
					t.Fatalf("%s(%s): error %d, but it has values", c.show(), told(m), a.e)
				}
				n["no form"]++
				continue
			}
			got, place, e := record.Value(a.m, at)
			if e != api.OK && e != api.ErrBig {
				t.Fatalf("%s(%s) at %s: place %d, error %d, but the model has values", c.show(), told(m), showRats(at), place, e)
			}
			if c.name == "Simplify" && e == api.OK && showRats(got) != showRats(want) {
				t.Fatalf("Simplify(%s) at %s: %s, want %s", told(m), showRats(at), showRats(got), showRats(want))
			}
			n[c.name]++
		}
	}
	n.least(t, met{"Simplify": 1000, "Diff": 1000, "Gradient": 1000, "Second": 3000, "no value": 200})
}

// P15.6: Fix is the model at points with that number, whatever stands there instead.
func TestFixedValues(t *testing.T) {
	t.Parallel()
	d := dice(13)
	held, compounds := 0, 0
	for _, m := range models(t, 14, tame, 4000) {
		if len(m.Inputs) == 0 {
			continue
		}
		i := d.next(len(m.Inputs))
		at := d.point(len(m.Inputs))
		want, _, e := record.Value(m, at)
		z, _, f := symbolic.Fix(m, i, at[i])
		if e != api.OK || f != api.OK {
			if e == api.OK && f == api.ErrPole {
				t.Fatalf("Fix(%s, %d, %s): a pole, but it has values", told(m), i, showRats(at))
			}
			continue
		}
		for _, other := range []string{"0", "1", "-5/3"} {
			at[i] = num(other)
			got, place, e := record.Value(z, at)
			if e != api.ErrBig && (e != api.OK || showRats(got) != showRats(want)) {
				t.Fatalf("Fix(%s, %d) at %s: %s, place %d, error %d, want %s", told(m), i, showRats(at), showRats(got), place, e, showRats(want))
			}
		}
		used, _, _, _ := formula.Uses(z)
		if used[i] != 0 || !slices.Equal(z.Inputs, m.Inputs) {
			t.Fatalf("Fix(%s, %d): the input is named still, or is no input any more", told(m), i)
		}
		held++
		compounds += len(z.Nodes) / 5
	}
	if held < 1500 || compounds < 1000 {
		t.Errorf("only %d models were held", held)
	}
}

// P15.6: models that are the same have the same values where both have some.
func TestSameValues(t *testing.T) {
	t.Parallel()
	d := dice(15)
	same := 0
	// Small models, of which many are the same by chance.
	var l []api.Model
	for len(l) < 400 {
		l = append(l, must(t, "in x, y\nout "+d.expr(pool{[]string{"1", "2", "[-1]"}, []string{"2", "-1"}}, 2, []string{"x", "y", "x"}, nil)))
	}
	for i, a := range l {
		for _, b := range l[:i] {
			if !symbolic.Same(a, b) {
				continue
			}
			for range 5 {
				at := d.point(2)
				x, _, e := record.Value(a, at)
				y, _, f := record.Value(b, at)
				if e == api.OK && f == api.OK {
					same++
					if showRats(x) != showRats(y) {
						t.Fatalf("%s and %s at %s: %s and %s", told(a), told(b), showRats(at), showRats(x), showRats(y))
					}
				}
			}
		}
	}
	if same < 1000 {
		t.Errorf("only %d values were held", same)
	}
}

// P15.7: the derivative that is told as a model is the one that is swept; so is the second one.
func TestSwept(t *testing.T) {
	t.Parallel()
	d := dice(16)
	first, twice, other := 0, 0, 0
	for i, m := range models(t, 17, tame, 3000) {
		way, _ := record.WayOf(i % 8)
		x, _, e := record.Record(m, way)
		if e != api.OK || len(m.Inputs) == 0 {
			continue
		}
		at := d.point(len(m.Inputs))
		u := units(len(m.Inputs))
		forward, _, e := sweep.Forward(x, at, u)
		if e != api.OK {
			continue
		}
		for i := range m.Inputs {
			z, _, e := symbolic.Diff(m, i)
			got, _, f := record.Value(z, at)
			if e != api.OK || f != api.OK {
				continue
			}
			first++
			if showRats(got) != showRats(forward[i]) {
				t.Fatalf("Diff(%s, %d) at %s: %s, want %s", told(m), i, showRats(at), showRats(got), showRats(forward[i]))
			}
		}
		for k, w := range units(len(m.Outs)) {
			g, _, e := symbolic.Gradient(m, k)
			got, _, f := record.Value(g, at)
			for i := range got {
				if e == api.OK && f == api.OK && showRats(got[i:i+1]) != showRats(forward[i][k:k+1]) {
					t.Fatalf("Gradient(%s, %d) at %s: %s", told(m), k, showRats(at), showRats(got))
				}
			}
			h, _, e := sweep.Second(x, at, w, u)
			if e != api.OK {
				continue
			}
			for i := range m.Inputs {
				for j := range m.Inputs {
					z, _, e := symbolic.Second(m, i, j)
					got, _, f := record.Value(z, at)
					if e != api.OK || f != api.OK {
						continue
					}
					twice++
					if showRats(got[k:k+1]) != showRats(h[j][i:i+1]) {
						t.Fatalf("Second(%s, %d, %d) of output %d at %s: %s, want %s", told(m), i, j, k, showRats(at), showRats(got[k:k+1]), showRats(h[j][i:i+1]))
					}
					if len(got[k].Num) > 0 {
						other++
					}
				}
			}
		}
	}
	if first < 2000 || twice < 8000 || other < 500 {
		t.Errorf("too little was met: %d derivatives, %d second ones, %d of them not 0", first, twice, other)
	}
}

// P15.8: Simplify of what any call answers is that model again; it is tidy, without functions and lets, and has the model's inputs.
func TestNormalIsNormal(t *testing.T) {
	t.Parallel()
	held := met{}
	l := append(models(t, 18, tame, 1500), models(t, 19, wild, 300)...)
	for _, m := range l {
		for _, c := range calls(m) {
			a := c.do(m)
			if a.e != api.OK || c.name == "Text" {
				continue
			}
			held[c.name]++
			z, at, e := symbolic.Simplify(a.m)
			if e != api.OK || at != 0 || showModel(z) != showModel(a.m) {
				t.Fatalf("Simplify of %s(%s): %s, place %d, error %d, want %s", c.show(), told(m), told(z), at, e, told(a.m))
			}
			tidy, e := formula.Tidy(a.m)
			if e != api.OK || showModel(tidy) != showModel(a.m) || len(a.m.Funcs)+len(a.m.Lets) > 0 || !slices.Equal(a.m.Inputs, m.Inputs) {
				t.Fatalf("%s(%s): %s", c.show(), told(m), showModel(a.m))
			}
		}
		x, _, e := symbolic.Text(m)
		z, _, f := symbolic.Simplify(m)
		y, _, g := symbolic.Text(z)
		if e == api.OK && f == api.OK && (g != api.OK || !slices.Equal(x, y)) {
			t.Fatalf("Text of Simplify(%s): %q, want %q", told(m), y, x)
		}
	}
	held.least(t, met{"Simplify": 1000, "Diff": 1500, "Second": 3000, "Gradient": 1500, "Fix": 1000})
}

// P15.8: the derivative by an input that nobody names is 0 throughout.
func TestNotNamed(t *testing.T) {
	t.Parallel()
	held := 0
	for _, m := range models(t, 20, tame, 1000) {
		m.Inputs = append(m.Inputs, "nobody")
		z, _, e := symbolic.Diff(m, len(m.Inputs)-1)
		if e != api.OK {
			if _, _, f := symbolic.Text(m); f != e {
				t.Fatalf("Diff(%s): error %d", told(m), e)
			}
			continue
		}
		l, _, _ := symbolic.Text(z)
		for _, s := range l {
			if s != "0" {
				t.Fatalf("Diff(%s) by an input that nobody names: %q", told(m), l)
			}
		}
		held++
	}
	if held < 700 {
		t.Errorf("only %d models were held", held)
	}
}

// G7, P15.7: a function that is no polynomial, at a point, in all ways of recording.
func TestFormulaKnowsItToo(t *testing.T) {
	m := must(t, "in x, y\nfn f(a, b) = (a * b + 1)^3 / (a - b)\nlet u = f(x, y)\nout u^2 - x, f(u, x) + f(y, u)^-1")
	at := nums("3 1/2")
	for _, way := range record.Ways() {
		x, _, _ := record.Record(m, way)
		forward, _, e := sweep.Forward(x, at, units(2))
		if e != api.OK {
			t.Fatal(e)
		}
		for i := range m.Inputs {
			z, _, _ := symbolic.Diff(m, i)
			if got, _, e := record.Value(z, at); e != api.OK || showRats(got) != showRats(forward[i]) {
				t.Errorf("%v: %s, error %d, want %s", way, showRats(got), e, showRats(forward[i]))
			}
		}
	}
}
