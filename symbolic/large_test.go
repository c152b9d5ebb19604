package symbolic_test

import (
	"fmt"
	"math/big"
	"slices"
	"sort"
	"strings"
	"testing"

	"slope/api"
	"slope/record"
	"slope/sweep"
	"slope/symbolic"
)

// doubled are functions f0 to fn of one parameter: f0 as told, each other one twice the one ahead of it.
func doubled(body string, n int) string {
	s := "fn f0(a) = " + body + "\n"
	for i := range n {
		s += fmt.Sprintf("fn f%d(a) = f%d(f%d(a))\n", i+1, i, i)
	}
	return s
}

// P15.1, P15.2: sums within sums, 8192 of them: the text has one byte less than MaxText, and no room for one sum more.
func TestDeep(t *testing.T) {
	t.Parallel()
	head := "in x, y\n" + doubled("a^2 + 1", 13)
	want := "1*x^2+1"
	for range 8191 {
		want = "1*(" + want + ")^2+1"
	}
	l, at, e := symbolic.Text(must(t, head+"out f13(x)"))
	if e != api.OK || at != 0 || len(l[0]) != api.MaxText-1 || l[0] != want {
		t.Errorf("Text: %s, place %d, error %d", short(fmt.Sprint(l)), at, e)
	}
	wantFault(t, "a sum more", must(t, head+"out x, f0(f13(x))"), call{name: "Text"}, 1, api.ErrText)
	wantFault(t, "the derivative", must(t, head+"out x, f13(x)"), diff(0), 1, api.ErrText)
	wantForms(t, head+"let u = f12(y)\nout u * 0, x, u^2 / u^2 * x", diff(0), "0 1 1")
	m := must(t, head+"out f13(x)")
	if a := diff(1).do(m); a.e != api.OK || len(a.m.Nodes) != 1 {
		t.Errorf("Diff by an input that is not named: place %d, error %d", a.at, a.e)
	}
	wantFault(t, "the sum itself", m, call{name: "Simplify"}, 0, api.ErrModel)
}

// P15.1: a coefficient that grows step by step up to thousands of digits.
func TestGreatCoefficient(t *testing.T) {
	t.Parallel()
	three := new(big.Int).Exp(big.NewInt(3), big.NewInt(4096), nil)
	wantTexts(t, "in x, y\n"+doubled("a * 3", 12)+"out f12(x), f12(x * y + y)", fmt.Sprintf("%s*x %s*x*y+%s*y", three, three, three))
	two := new(big.Int).Lsh(big.NewInt(1), 4096)
	wantTexts(t, "in x, y\n"+doubled("a + a", 12)+"out f12(x)", fmt.Sprintf("%s*x", two))
	wantTexts(t, "in x, y\n"+doubled("a / 2", 12)+"out f12(x), f12(x)^-1", fmt.Sprintf("1/%s*x %s*x^-1", two, two))
}

// P15.1: many sums multiplied, many products added, their texts in order.
func TestWide(t *testing.T) {
	t.Parallel()
	var sums, products, bases, parts []string
	for i := range 800 {
		sums = append(sums, fmt.Sprintf("x + %d", i+2))
		bases = append(bases, fmt.Sprintf("*(1*x+%d)", i+2))
		products = append(products, fmt.Sprintf("x^%d * y", i+2))
		parts = append(parts, fmt.Sprintf("1*x^%d*y", i+2))
	}
	sort.Strings(bases)
	sort.Strings(parts)
	wantTexts(t, "in x, y\nout prod("+strings.Join(sums, ", ")+")", "1"+strings.Join(bases, ""))
	wantTexts(t, "in x, y\nout "+strings.Join(products, " + "), strings.Join(parts, "+"))
	slices.Reverse(products)
	wantTexts(t, "in x, y\nout sum("+strings.Join(products, ", ")+")", strings.Join(parts, "+"))
	wantTexts(t, "in x, y\nlet u = sum("+strings.Join(products, ", ")+")\nout u - u, sum("+repeat("u, -u", 200)+"), u / u", "0 0 1")
}

// P15.3, P15.7: the gradient of a thousand products of 64 inputs is the one that is swept.
func TestManyInputs(t *testing.T) {
	t.Parallel()
	var names, pairs []string
	for i := range 64 {
		names = append(names, fmt.Sprintf("x%d", i))
	}
	for i := range 800 {
		pairs = append(pairs, fmt.Sprintf("x%d * x%d", i%64, i*i*7%61))
	}
	m := must(t, "in "+strings.Join(names, ", ")+"\nout sum("+strings.Join(pairs, ", ")+")")
	d := dice(5)
	at := d.point(64)
	z, place, e := symbolic.Gradient(m, 0)
	if e != api.OK {
		t.Fatalf("Gradient: place %d, error %d", place, e)
	}
	got, _, e := record.Value(z, at)
	if e != api.OK {
		t.Fatal(e)
	}
	x, _, _ := record.Record(m, api.Way{})
	want, _, e := sweep.Reverse(x, at, [][]api.Rat{nums("1")})
	if e != api.OK || showRats(got) != showRats(want[0]) {
		t.Errorf("Gradient: %s, want %s, error %d", short(showRats(got)), short(showRats(want[0])), e)
	}
}
