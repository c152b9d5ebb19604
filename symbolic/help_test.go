package symbolic_test

import (
	"fmt"
	"math/big"
	"slices"
	"strings"
	"testing"

	"slope/api"
	"slope/formula"
	"slope/rational"
	"slope/symbolic"
)

// dice throws numbers that are the same in every run.
type dice uint64

func (d *dice) next(n int) int {
	*d = *d*6364136223846793005 + 1442695040888963407
	return int(uint32(*d>>32)) % n
}

// pick is one of a list.
func pick[T any](d *dice, l ...T) T { return l[d.next(len(l))] }

// num reads a number.
func num(s string) api.Rat {
	r, _, e := rational.Parse(s)
	if e != api.OK {
		panic(s)
	}
	return r
}

// nums reads numbers that blanks stand between.
func nums(s string) []api.Rat {
	var l []api.Rat
	for _, word := range strings.Fields(s) {
		l = append(l, num(word))
	}
	return l
}

// must reads a model's text that is one.
func must(t *testing.T, text string) api.Model {
	t.Helper()
	m, at, e := formula.Parse(text)
	if e != api.OK {
		t.Fatalf("Parse(%q): place %d, error %d", short(text), at, e)
	}
	return m
}

// short is the beginning of a long message.
func short(s string) string {
	if len(s) > 600 {
		return s[:600] + fmt.Sprintf(".. (%d bytes)", len(s))
	}
	return s
}

// showRats are numbers for comparing and for messages.
func showRats(l []api.Rat) string {
	var s strings.Builder
	for _, r := range l {
		fmt.Fprintf(&s, "%v %x/%x; ", r.Neg, []uint32(r.Num), []uint32(r.Den))
	}
	return s.String()
}

// showModel is a model for comparing and for messages: nil and empty lists are the same.
func showModel(m api.Model) string {
	var s strings.Builder
	fmt.Fprintf(&s, "inputs %q funcs", m.Inputs)
	for _, f := range m.Funcs {
		fmt.Fprintf(&s, " %q%q:%d", f.Name, f.Params, f.Body)
	}
	s.WriteString(" lets")
	for _, l := range m.Lets {
		fmt.Fprintf(&s, " %q:%d", l.Name, l.Body)
	}
	fmt.Fprintf(&s, " outs %d nodes", m.Outs)
	for i, x := range m.Nodes {
		fmt.Fprintf(&s, " %d(%d %q %s %d %d)", i, x.Kind, x.Name, showRats([]api.Rat{x.Num}), x.N, x.Kids)
	}
	return s.String()
}

// told is a model's text for messages.
func told(m api.Model) string {
	s, e := formula.Print(m)
	if e != api.OK {
		s = showModel(m)
	}
	return short(s)
}

// answer is what a call answers: a model or texts; a place; an error.
type answer struct {
	m     api.Model
	texts []string
	at    int
	e     api.Errno
}

// show is an answer for comparing and for messages.
func (a answer) show() string {
	return fmt.Sprintf("%s, texts %q, place %d, error %d", showModel(a.m), a.texts, a.at, a.e)
}

// model and list are answers of a model and of texts.
func model(m api.Model, at int, e api.Errno) answer { return answer{m: m, at: at, e: e} }
func list(l []string, at int, e api.Errno) answer   { return answer{texts: l, at: at, e: e} }

// call is one of the package's calls with all but the model told.
type call struct {
	name     string
	one, two int
	c        api.Rat
}

// do does a call.
func (c call) do(m api.Model) answer {
	switch c.name {
	case "Simplify":
		return model(symbolic.Simplify(m))
	case "Text":
		return list(symbolic.Text(m))
	case "Diff":
		return model(symbolic.Diff(m, c.one))
	case "Gradient":
		return model(symbolic.Gradient(m, c.one))
	case "Second":
		return model(symbolic.Second(m, c.one, c.two))
	case "Fix":
		return model(symbolic.Fix(m, c.one, c.c))
	}
	panic(c.name)
}

// show is a call for messages.
func (c call) show() string {
	return fmt.Sprint(c.name, " ", c.one, " ", c.two, " ", short(showRats([]api.Rat{c.c})))
}

// calls are all calls of a model with numbers that are right for it.
func calls(m api.Model) []call {
	l := []call{{name: "Simplify"}, {name: "Text"}}
	for i := range m.Inputs {
		l = append(l, call{name: "Diff", one: i}, call{name: "Fix", one: i, c: num("-2/3")})
		for j := range m.Inputs {
			l = append(l, call{name: "Second", one: i, two: j})
		}
	}
	for i := range m.Outs {
		if len(m.Inputs) > 0 {
			l = append(l, call{name: "Gradient", one: i})
		}
	}
	return l
}

// wantTexts fails if the texts of a model's outputs are others; blanks part those that are wanted.
func wantTexts(t *testing.T, text, want string) {
	t.Helper()
	wantForms(t, text, call{name: "Simplify"}, want)
	l, at, e := symbolic.Text(must(t, text))
	if at != 0 || e != api.OK || !slices.Equal(l, strings.Fields(want)) {
		t.Errorf("Text(%q): %q, place %d, error %d, want %s", short(text), l, at, e, want)
	}
}

// wantForms fails if a call answers a model whose texts are others.
func wantForms(t *testing.T, text string, c call, want string) {
	t.Helper()
	a := c.do(must(t, text))
	l, at, e := symbolic.Text(a.m)
	if a.at != 0 || a.e != api.OK || at != 0 || e != api.OK || !slices.Equal(l, strings.Fields(want)) {
		t.Errorf("%s(%q): %q, place %d, error %d, want %s", c.show(), short(text), l, a.at, a.e, want)
	}
}

// wantModel fails if a call answers another model than the one of this text.
func wantModel(t *testing.T, text string, c call, want string) {
	t.Helper()
	a := c.do(must(t, text))
	s, e := formula.Print(a.m)
	if a.at != 0 || a.e != api.OK || e != api.OK || s != want {
		t.Errorf("%s(%q): %q, place %d, error %d, want %q", c.show(), short(text), s, a.at, a.e, want)
	}
	if tidy, _ := formula.Tidy(a.m); showModel(tidy) != showModel(a.m) {
		t.Errorf("%s(%q): the model is not tidy", c.show(), short(text))
	}
}

// wantFault fails if a call answers anything but this error at this place.
func wantFault(t *testing.T, what string, m api.Model, c call, at int, e api.Errno) {
	t.Helper()
	a := c.do(m)
	if want := (answer{at: at, e: e}); a.show() != want.show() {
		t.Errorf("%s(%s): %s, want place %d, error %d", c.show(), short(what), short(a.show()), at, e)
	}
}

// wantNoTexts fails if Text and Simplify of a text answer anything but this error at this place.
func wantNoTexts(t *testing.T, text string, at int, e api.Errno) {
	t.Helper()
	m := must(t, text)
	wantFault(t, text, m, call{name: "Text"}, at, e)
	wantFault(t, text, m, call{name: "Simplify"}, at, e)
}

// bigOf is a number in the library's form.
func bigOf(r api.Rat) *big.Rat {
	z := new(big.Rat).SetFrac(bigNat(r.Num), bigNat(r.Den))
	if r.Neg {
		z.Neg(z)
	}
	return z
}

// bigNat is a natural in the library's form.
func bigNat(n api.Nat) *big.Int {
	z := new(big.Int)
	for i := len(n) - 1; i >= 0; i-- {
		z.Lsh(z, 32).Or(z, big.NewInt(int64(n[i])))
	}
	return z
}

// point is one at random for so many inputs.
func (d *dice) point(n int) []api.Rat {
	var l []api.Rat
	for range n {
		l = append(l, num(pick(d, "0", "1", "-1", "2", "1/2", "-7/3", "5", "-12345678901/7")))
	}
	return l
}

// pool is what expressions at random are made of.
type pool struct {
	numbers, powers []string
}

// tame are numbers and powers that seldom meet a limit, wild are such as often do.
var (
	tame = pool{[]string{"0", "1", "2", "3", "0.5", "[-1]", "[-2/3]", "[7/4]"}, []string{"-2", "-1", "0", "1", "2", "3"}}
	wild = pool{[]string{"0", "1", "2", "3", "5", "[-1]", "[1/2]", "[-2/3]", "2^1024", "2^-1024", "(3^1024)^40", "(2^1024)^63 * 2^1022"}, []string{"-1024", "-512", "-2", "-1", "0", "1", "2", "512", "1023", "1024"}}
)

// expr is an expression at random, of so many levels at most.
func (d *dice) expr(p pool, deep int, names []string, funcs []string) string {
	kid := func() string { return d.expr(p, deep-1-d.next(2), names, funcs) }
	if deep <= 0 || d.next(6) == 0 {
		if len(names) == 0 || d.next(3) == 0 {
			return pick(d, p.numbers...)
		}
		return pick(d, names...)
	}
	switch d.next(9) {
	case 0:
		return "-" + "(" + kid() + ")"
	case 1, 2:
		return "(" + kid() + ")^" + pick(d, p.powers...)
	case 3, 4:
		l := []string{}
		for range pick(d, 0, 1, 2, 3, 3, 4, 5) {
			l = append(l, kid())
		}
		return pick(d, "sum", "prod") + "(" + strings.Join(l, ", ") + ")"
	case 5, 6:
		if len(funcs) > 0 {
			return d.call(pick(d, funcs...), kid)
		}
	}
	return "(" + kid() + ")" + pick(d, " + ", " - ", " * ", " * ", " / ") + "(" + kid() + ")"
}

// call is a call of a function whose name ends in its number of parameters.
func (d *dice) call(f string, kid func() string) string {
	l := []string{}
	for range int(f[len(f)-1] - '0') {
		l = append(l, kid())
	}
	return f + "(" + strings.Join(l, ", ") + ")"
}

// text is a model at random, with functions, lets and outputs that use one another.
func (d *dice) text(p pool) string {
	var s strings.Builder
	names := []string{"x", "x1", "X_"}[:d.next(4)]
	if len(names) > 0 {
		fmt.Fprintf(&s, "in %s\n", strings.Join(names, ", "))
	}
	var funcs []string
	for i := range d.next(3) {
		// Parameters are called like inputs and lets, too.
		params := []string{"x", "b", "u0"}[:d.next(4)]
		f := fmt.Sprintf("f%d_%d", i, len(params))
		fmt.Fprintf(&s, "fn %s(%s) = %s\n", f, strings.Join(params, ", "), d.expr(p, 2+d.next(2), params, funcs))
		funcs = append(funcs, f)
	}
	for i := range d.next(4) {
		fmt.Fprintf(&s, "let u%d = %s\n", i, d.expr(p, 2+d.next(2), names, funcs))
		names = append(names[:len(names):len(names)], fmt.Sprintf("u%d", i))
	}
	for range 1 + d.next(3) {
		fmt.Fprintf(&s, "out %s\n", d.expr(p, 2+d.next(3), names, funcs))
	}
	return s.String()
}

// models are some at random.
func models(t *testing.T, seed dice, p pool, n int) []api.Model {
	t.Helper()
	d := seed
	var l []api.Model
	for len(l) < n {
		l = append(l, must(t, d.text(p)))
	}
	return l
}

// wrongNumbers are numbers that may not be.
func wrongNumbers() []api.Rat {
	return []api.Rat{
		{}, {Num: api.Nat{1}}, {Num: api.Nat{2}, Den: api.Nat{4}}, {Neg: true, Den: api.Nat{1}}, {Den: api.Nat{2}}, {Num: api.Nat{1, 0}, Den: api.Nat{1}}, {Num: api.Nat{1}, Den: api.Nat{3, 0}}, {Num: append(make(api.Nat, api.MaxLimbs), 1), Den: api.Nat{1}},
	}
}
