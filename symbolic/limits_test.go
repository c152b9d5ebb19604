package symbolic_test

import (
	"fmt"
	"strings"
	"testing"

	"slope/api"
	"slope/record"
	"slope/symbolic"
)

// power is what makes 2^65535 in a model: the greatest power of 2 that is no more than layer 2's size.
const power = "(2^1024)^63 * 2^1023"

// powers is the sum of a to the powers 2 to n, as a function's body.
func powers(n int) string {
	var l []string
	for i := 2; i <= n; i++ {
		l = append(l, fmt.Sprint("a^", i))
	}
	return "sum(" + strings.Join(l, ", ") + ")"
}

// items is how many terms the w of sized has, with its constant, if its text is nearly as long as may be.
const items = 1600

// sized is a model's text up to its outputs: inputs x, y and two more, and a let w of these two, a compound sum whose text has n bytes.
func sized(t *testing.T, n int) string {
	t.Helper()
	one, two := "n"+strings.Repeat("1", 30), "n"+strings.Repeat("2", 30)
	for _, count := range []int{600, 300, 2} {
		lines := fmt.Sprintf("in x, y, %s, %s\nfn f(a) = %s\nfn g(a) = %s\nlet v = f(%s) + g(%s)\n", one, two, powers(1001), powers(count), one, two)
		l, _, e := symbolic.Text(must(t, lines+"out v"))
		if e != api.OK {
			t.Fatal(e)
		}
		if digits := n - len(l[0]) - 1; digits > 0 && digits < 19000 {
			return lines + "let w = v + [1" + strings.Repeat("0", digits-1) + "]\n"
		}
	}
	t.Fatalf("no constant makes %d bytes", n)
	return ""
}

// P15.1: a text of MaxText bytes is none too long, one of a byte more is: of each thing that is done, also where what comes behind it would be shorter.
func TestTextLimit(t *testing.T) {
	t.Parallel()
	for _, c := range []struct {
		expr string
		more int // how much longer than w's the longest text on the way is
		end  int // how much longer than w's the last one is; far below that, if it hasn't w in it
	}{
		{"w", 0, 0},
		{"w + x", 4, 4},
		{"x + w", 4, 4},
		{"w - x", 5, 5},
		{"w * x", 6, 6},
		{"x * w * 7", 6, 6},
		{"w * 2", 0, 0},
		{"w * 10", items, items},
		{"-w", items, items},
		{"x - w", items + 4, items + 4},
		{"w^2", 6, 6},
		{"w^-1024", 10, 10},
		{"w^-1", 7, 7},
		{"x / w", 9, 9},
		{"w / w", 7, -99999},
		{"w * x / x", 6, 0},
		{"w + x - x", 4, 0},
		{"--w", items, 0},
		{"w - w", items, -99999},
		{"(w * x)^-1", 12, 12},
		{"sum(w, x, y)", 8, 8},
		{"sum(w, x, -x)", 4, 0},
		{"sum(-x, w, y)", 9, 9},
		{"prod(w, x, y)", 8, 8},
		{"prod(y, x, w, 1 / x)", 8, 6},
		{"w * (x + y)", len("1*()*(1*x+1*y)"), len("1*()*(1*x+1*y)")},
		{"(w + x)^2 / (w + x)", 4 + 6 + 1, 4},
	} {
		fits := sized(t, api.MaxText-c.more) + "out x, " + c.expr
		l, at, e := symbolic.Text(must(t, fits))
		if e != api.OK || at != 0 {
			t.Errorf("Text of %s: place %d, error %d, with %d bytes at most", c.expr, at, e, api.MaxText)
		} else if want := api.MaxText - c.more + c.end; len(l[1]) != max(want, 1) {
			t.Errorf("Text of %s: %d bytes, want %d", c.expr, len(l[1]), want)
		}
		m := must(t, sized(t, api.MaxText-c.more+1)+"out x, "+c.expr)
		wantFault(t, c.expr, m, call{name: "Text"}, 1, api.ErrText)
	}
}

// P15.1: likewise of numbers of all shapes, whose digits can't be told by their bits alone, as constants and as coefficients.
func TestDigitsLimit(t *testing.T) {
	t.Parallel()
	nines := func(n int) string { return strings.Repeat("9", n) }
	ones := func(n int) string { return "1" + strings.Repeat("0", n-2) + "1" }
	shapes := map[string]func(n int) string{
		"digits":         nines,
		"a power of ten": func(n int) string { return "1" + strings.Repeat("0", n-1) },
		"below 0":        func(n int) string { return "-" + nines(n-1) },
		"a quotient":     func(n int) string { return "1/" + nines(n-2) },
		"another one":    func(n int) string { return nines(900) + "/1" + strings.Repeat("0", n-902) },
		"one below 0":    func(n int) string { return "-1" + strings.Repeat("0", 899) + "/" + ones(n-902) },
	}
	for what, shape := range shapes {
		for _, c := range []struct {
			expr string
			more int // how much longer than v's and the number's the text is
		}{
			{"v + c", len("+")}, {"c + v", len("+")}, {"c * x + v", len("*x+")}, {"v * x * c", len("*()*x")}, {"c * x * v", len("*()*x")}, {"sum(v, c, x)", len("+1*x+")}, {"v * y^2 * (c * x)", len("*()*x*y^2")},
		} {
			head := sized(t, 60560)
			l, _, _ := symbolic.Text(must(t, head+"out v"))
			room := api.MaxText - len(l[0]) - c.more
			fits, over := head+"let c = ["+shape(room)+"]\nout x, "+c.expr, head+"let c = ["+shape(room+1)+"]\nout x, "+c.expr
			l, at, e := symbolic.Text(must(t, fits))
			if e != api.OK || len(l[1]) != api.MaxText {
				t.Errorf("Text of %s with %s: place %d, error %d", c.expr, what, at, e)
			}
			wantFault(t, c.expr+" with "+what, must(t, over), call{name: "Text"}, 1, api.ErrText)
		}
	}
	// Great numbers in each of many terms.
	wantFault(t, "great numbers", must(t, sized(t, 60560)+"out x, w * (3^1024)^40"), call{name: "Text"}, 1, api.ErrText)
	wantFault(t, "great numbers", must(t, sized(t, 60560)+"out x, w * (3^1024)^-40"), call{name: "Text"}, 1, api.ErrText)
}

// P15.2, P15.3: likewise of what deriving does: of the factors that are left, of their product with the base's derivative, of the sums.
func TestDiffTextLimit(t *testing.T) {
	t.Parallel()
	for _, c := range []struct {
		expr string
		more int // how much longer than w's the longest text of its derivative by y is
		end  int // how much longer than w's the derivative is
	}{
		{"y^1000 * w", len("1000*()*y^999"), len("1000*()*y^999")},
		// What is left is longer than what it makes with the base's derivative.
		{"(y / 1000 + 1)^1000 * w", len("1000*()*(1/1000*y+1)^999"), len("1*()*(1/1000*y+1)^999")},
		// What is left fits, what it makes with the base's derivative does not.
		{"(y^1000 + 1)^10 * w", len("10000*()*(1*y^1000+1)^9*y^999"), len("10000*()*(1*y^1000+1)^9*y^999")},
		// Each term's derivative fits, their sum does not.
		{"y^1000 * w + y^10", len("1000*()*y^999+10*y^9"), len("1000*()*y^999+10*y^9")},
	} {
		m := must(t, sized(t, api.MaxText-c.more)+"out x, "+c.expr)
		a := diff(1).do(m)
		l, _, e := symbolic.Text(a.m)
		if a.e != api.OK || e != api.OK || len(l[1]) != api.MaxText-c.more+c.end {
			t.Errorf("the derivative of %s: place %d, error %d", c.expr, a.at, a.e)
		}
		m = must(t, sized(t, api.MaxText-c.more+1)+"out x, "+c.expr)
		if _, _, e := symbolic.Text(m); e != api.OK {
			t.Errorf("Text of %s: error %d", c.expr, e)
		}
		wantFault(t, c.expr, m, diff(1), 1, api.ErrText)
		wantFault(t, c.expr, m, gradient(1), 1, api.ErrText)
		wantFault(t, c.expr, m, second(1, 0), 1, api.ErrText)
		if a := diff(0).do(m); a.e != api.OK {
			t.Errorf("the other derivative of %s: place %d, error %d", c.expr, a.at, a.e)
		}
	}
	// Each factor's share fits, their sum does not.
	wantFault(t, "two shares", must(t, sized(t, 60000)+"out y^2 * (x + y)^2 * w"), diff(1), 0, api.ErrText)
	// Second is refused where the derivative fits, at the output's number.
	m := must(t, sized(t, api.MaxText-len("1000*()*y^999")-1)+"out x, y^1000 * w")
	if a := diff(1).do(m); a.e != api.OK {
		t.Errorf("Diff: place %d, error %d", a.at, a.e)
	}
	wantFault(t, "a second derivative", m, second(1, 1), 1, api.ErrText)
}

// P15.1 to P15.4: numbers of layer 2's size are none too big, those a bit beyond are, wherever they stand.
func TestNumberLimit(t *testing.T) {
	t.Parallel()
	head := "in x, y\nlet c = " + power + "\n"
	for _, expr := range []string{"c", "c * x", "c * x + y", "x + c", "x / c", "c * x + c * y - c", "(c * x)^-1", "(x / c + 1 / c) * c", "c * (x + 1)^2 / (x + 1)", "c * x - c * x", "c * x * (1 / c)", "c + x - c"} {
		m := must(t, head+"out x, "+expr)
		for _, c := range calls(m) {
			if a := c.do(m); a.e != api.OK && c.name != "Fix" {
				t.Errorf("%s of %s: place %d, error %d", c.show(), expr, a.at, a.e)
			}
		}
	}
	for _, expr := range []string{
		"c * 2", "c + c", "(2 * c)^0", "0 * (2 * c)", "(1 / c) / 2", "c^2", "c^-2", "c * x * 2", "2 * (c * x)", "c * x + x * c", "x + c + c", "(c * x + 1) * 2", "(x + c) * 2", "(c * x)^2", "(c * x)^-2",
		"sum(c, c, -c)", "prod(c, 2, 1 / 2)", "sum(c * x, x * c)", "(x / c) * (y / 2)", "c * x * (2 * y)", "-(-c - c)",
		// The coefficients' product is too big ahead of the sum's own numbers.
		"(c * (x / 4 + y / 4)^2) * (2 * (x / 4 + y / 4)^-1)",
		// The coefficient is not, but it is when a sum with a coefficient is a sum again.
		"(c * (2 * x + y)^2) * (2 * x + y)^-1", "(2 * x + y)^2 * c / (2 * x + y)", "(c^-1 * (2 * x + 1)^-1)^-1",
	} {
		wantFault(t, expr, must(t, head+"out x, "+expr), call{name: "Text"}, 1, api.ErrBig)
		wantFault(t, expr, must(t, head+"out x, y, "+expr), diff(0), 2, api.ErrBig)
		wantFault(t, expr, must(t, head+"out x, y, "+expr), gradient(2), 0, api.ErrBig)
	}
	// Numbers that deriving alone makes too big: c times the power, a base's derivative, sums of shares and of terms.
	for _, expr := range []string{"c * y^2", "c * (x + y)^2", "c * (x / 2 + y / 2)^2", "(c * y + x) * (2 * y + x)", "(c * y^2 + x)^-1", "c * y * (y + 1) + c * y", "c * y^3 * y^-1"} {
		m := must(t, head+"out x, "+expr)
		if _, _, e := symbolic.Text(m); e != api.OK {
			t.Errorf("Text of %s: error %d", expr, e)
		}
		wantFault(t, expr, m, diff(1), 1, api.ErrBig)
	}
	wantFault(t, "a second derivative", must(t, head+"out 1, c / 2 * y^2, c * y^1 + c / 4 * y^4"), second(1, 1), 2, api.ErrBig)
	wantFault(t, "a fixed input", must(t, head+"out x, c * y"), fix(1, "3"), 1, api.ErrBig)
	wantForms(t, "in x, y\nout x, 2^1024 * y", fix(1, "0"), "1*x 0")
}

// P15.1 to P15.4: powers of MaxPower and -MaxPower may be, those beyond may not, of names and of sums, also if they come back.
func TestPowerLimit(t *testing.T) {
	for _, expr := range []string{"x^1024 * x", "x^-1024 / x", "x^512 * x^513", "(x^2)^513", "(x^-2)^513", "(x^1024)^1024", "(x^1024)^-1024", "(x + y)^1024 * (x + y)", "(x + y)^-1000 * (y + x)^-25", "((x + y)^33)^32", "x^1024 * x / x", "prod(x^1000, x^1000, x^-1000)", "y * x^1024 * x * 0", "(y * x^600)^2", "(x^600 * y)^-2", "(x * y)^1024 * x"} {
		m := must(t, "in x, y\nout 1, "+expr)
		wantFault(t, expr, m, call{name: "Text"}, 1, api.ErrPower)
		wantFault(t, expr, m, call{name: "Simplify"}, 1, api.ErrPower)
		wantFault(t, expr, m, diff(0), 1, api.ErrPower)
		wantFault(t, expr, m, gradient(1), 0, api.ErrPower)
	}
	// The power -MaxPower has no derivative; a step below it no second one.
	for _, base := range []string{"x", "(x + 1)", "(x * y + 1)"} {
		m := must(t, "in x, y\nout x, "+base+"^-1024, y")
		wantFault(t, base, m, diff(0), 1, api.ErrPower)
		wantFault(t, base, m, second(0, 0), 1, api.ErrPower)
		wantFault(t, base, m, gradient(1), 0, api.ErrPower)
		m = must(t, "in x, y\nout x, "+base+"^-1023, y")
		if a := diff(0).do(m); a.e != api.OK {
			t.Errorf("Diff of %s^-1023: place %d, error %d", base, a.at, a.e)
		}
		wantFault(t, base, m, second(0, 0), 1, api.ErrPower)
	}
	wantForms(t, "in x, y\nout x^-1024, x^-1023", diff(1), "0 0")
	wantForms(t, "in x\nout x^-1023, x^1024, (x + 1)^1024", diff(0), "-1023*x^-1024 1024*x^1023 1024*(1*x+1)^1023")
	// A power that is looked at, not the one that is left: the base's derivative makes it greater again.
	wantFault(t, "x^-1024 of a product", must(t, "in x, y\nout y * x^-1024 * (x + 1)"), diff(0), 0, api.ErrPower)
	wantFault(t, "a product of powers", must(t, "in x\nout (x^1024 + 1)^2 * x^10"), diff(0), 0, api.ErrPower)
	// By input y alone: the place is the input's number.
	wantFault(t, "the second input", must(t, "in x, y\nout x + y^-1024"), gradient(0), 1, api.ErrPower)
}

// P15.1: 0 to a power below 0, however the 0 came about; ahead of it nothing else is refused.
func TestPoles(t *testing.T) {
	for _, expr := range []string{"1 / 0", "x / (x - x)", "0^-1", "(0 * x)^-1024", "(2 * x - (x + x))^-3", "sum()^-1", "0 / 0", "0 * (1 / 0)", "(1 / 0)^0", "x / (y * 0)", "((x + 1)^2 / (x + 1) - x - 1)^-1"} {
		m := must(t, "in x, y\nout x, y, "+expr)
		for _, c := range []call{{name: "Text"}, {name: "Simplify"}, diff(0), diff(1), second(1, 1), fix(0, "1/7")} {
			wantFault(t, expr, m, c, 2, api.ErrPole)
		}
		wantFault(t, expr, m, gradient(2), 0, api.ErrPole)
	}
	// What is 0 at every point is no pole, if its normal form does not tell so.
	wantTexts(t, "in x\nout 1 / ((x + 1) * (x - 1) - x^2 + 1)", "1*(1*(1*x+-1)*(1*x+1)+-1*x^2+1)^-1")
}

// The section 'Limits': of several that apply the one that is named first there; of several steps the first.
func TestLimitOrder(t *testing.T) {
	t.Parallel()
	head := "in x, y\nlet c = " + power + "\nout "
	wantNoTexts(t, head+"(c * x^1024) * (2 * x)", 0, api.ErrBig)
	wantNoTexts(t, head+"(c * x^1024)^2", 0, api.ErrBig)
	wantNoTexts(t, head+"(x^1024 * 2 * x) * c", 0, api.ErrPower)
	wantNoTexts(t, head+"x^1024 * x + 1 / 0", 0, api.ErrPower)
	wantNoTexts(t, head+"1 / 0 + x^1024 * x", 0, api.ErrPole)
	wantNoTexts(t, head+"sum(2 * x, c * 2, 1 / 0, x^1024 * x)", 0, api.ErrBig)
	// All kids of a sum are worked out ahead of it.
	wantNoTexts(t, head+"sum(c, c, 1 / 0)", 0, api.ErrPole)
	wantNoTexts(t, head+"prod(c, c, x^1024 * x)", 0, api.ErrPower)
	wantNoTexts(t, head+"(c + c) / 0", 0, api.ErrBig)
	wantNoTexts(t, head+"x / 0 * (c + c)", 0, api.ErrPole)
	wantFault(t, "big and a power", must(t, head+"c * x^-1024"), diff(0), 0, api.ErrBig)
	n := api.MaxText - len("1*()*x^1024")
	wantFault(t, "a power and a text", must(t, sized(t, n)+"out w * x^1024 * (x * y)"), call{name: "Text"}, 0, api.ErrPower)
	wantFault(t, "big and a text", must(t, sized(t, n-19800)+"out (w + "+power+" * x) * 10"), call{name: "Text"}, 0, api.ErrBig)
	wantFault(t, "big and a text", must(t, sized(t, n-19800)+"let c = "+power+" * x\nout (w + c) + (c + x^2 * y^2 * (x + 123456)^9 * (x + 1234567)^9 * (x + 12345678)^9)"), call{name: "Text"}, 0, api.ErrBig)
	wantFault(t, "a power and a text in deriving", must(t, sized(t, n-2)+"out w * x^-1024"), diff(0), 0, api.ErrPower)
	// A quotient's power -1 comes ahead of its product, a difference's -1 ahead of its sum.
	wantFault(t, "a text, then a power", must(t, sized(t, api.MaxText-6)+"out (w * x^-1024) / w"), call{name: "Text"}, 0, api.ErrText)
	wantFault(t, "a text, then big", must(t, sized(t, api.MaxText-items+1)+"let c = "+power+"\nout c - (w - c)"), call{name: "Text"}, 0, api.ErrText)
}

// The section 'Promises': an output is worked out and derived ahead of the next one, and the first fault is told.
func TestOutputsInTurn(t *testing.T) {
	m := must(t, "in x, y\nout x, x^-1024, 1 / 0")
	wantFault(t, "derived in turn", m, diff(0), 1, api.ErrPower)
	wantFault(t, "derived in turn", m, diff(1), 2, api.ErrPole)
	wantFault(t, "worked out", m, call{name: "Text"}, 2, api.ErrPole)
	wantFault(t, "the output alone", m, gradient(1), 0, api.ErrPower)
	wantFault(t, "the output alone", m, gradient(2), 0, api.ErrPole)
	m = must(t, "in x, y\nout y, x^-1023, 1 / 0, x^1024 * x")
	wantFault(t, "derived twice in turn", m, second(0, 0), 1, api.ErrPower)
	wantFault(t, "derived twice in turn", m, second(0, 1), 2, api.ErrPole)
	// A let's fault stands at the output that names it first, and not at all where none does.
	m = must(t, "in x, y\nlet u = 1 / 0\nlet v = u + 1\nout x, x + y, v, u")
	wantFault(t, "a let", m, call{name: "Text"}, 2, api.ErrPole)
	if a := gradient(1).do(m); a.e != api.OK {
		t.Errorf("Gradient: place %d, error %d", a.at, a.e)
	}
}

// P15.1 to P15.4: an answer of MaxModel nodes is none too large, one of a node more is; Text and Same don't mind.
func TestModelLimit(t *testing.T) {
	t.Parallel()
	// x and 1023 powers of it, under a sum: 2048 nodes.
	head := "in x, y, z\nfn f(a) = " + strings.Replace(powers(1024), "sum(", "sum(a, ", 1) + "\n"
	full, over := must(t, head+"out f(x), f(y)"), must(t, head+"out f(x), f(y) + 1")
	a := simplify.do(full)
	if a.e != api.OK || len(a.m.Nodes) != api.MaxModel {
		t.Errorf("Simplify: place %d, error %d, %d nodes", a.at, a.e, len(a.m.Nodes))
	}
	wantFault(t, "a node too many", over, simplify, 0, api.ErrModel)
	wantFault(t, "a node too many", must(t, head+"out f(x), f(y), 1"), simplify, 0, api.ErrModel)
	wantFault(t, "a node too many", must(t, head+"out f(x), f(y), z"), fix(2, "5"), 0, api.ErrModel)
	for _, m := range []api.Model{full, over} {
		if _, _, e := symbolic.Text(m); e != api.OK || !symbolic.Same(m, m) {
			t.Errorf("Text: error %d", e)
		}
	}
	// The limits of the outputs behind come first.
	wantFault(t, "a pole behind", must(t, head+"out f(x), f(y) + 1, 1 / 0"), simplify, 2, api.ErrPole)
	// The derivative: a sum of 1, of 2 * x and of 1022 products of a power and a number.
	half := must(t, head+"out f(x)")
	if a := diff(0).do(half); a.e != api.OK || len(a.m.Nodes) != 1+1+3+4*1022 {
		t.Errorf("Diff: place %d, error %d, %d nodes", a.at, a.e, len(a.m.Nodes))
	}
	wantFault(t, "two of them", must(t, head+"out f(x) + f(y)"), gradient(0), 0, api.ErrModel)
	wantFault(t, "two of them", must(t, head+"out x^2 * f(x), x^2 * f(x)"), second(0, 0), 0, api.ErrModel)
}

// P15.1 to P15.4: work of MaxUnroll nodes is none too much, one node more is, of the whole model.
func TestWorkLimit(t *testing.T) {
	t.Parallel()
	head := "in x, y\nfn f(a) = sum(" + repeat("a", 254) + ")\nlet u = sum(" + repeat("f(x)", 255) + ")\n"
	full, over := must(t, head[:strings.Index(head, "let")]+"out sum("+repeat("f(x)", 255)+")"), must(t, head+"out u")
	for i, m := range []api.Model{full, over} {
		if n, _ := record.Work(m, api.Way{}); n != api.MaxUnroll+i {
			t.Fatalf("the work is %d", n)
		}
	}
	wantForms(t, head[:strings.Index(head, "let")]+"out sum("+repeat("f(x)", 255)+")", diff(0), "64770")
	for _, c := range calls(over) {
		wantFault(t, "too much work", over, c, 0, api.ErrNodes)
	}
	if symbolic.Same(over, over) || !symbolic.Same(full, full) {
		t.Error("Same of models of much work")
	}
	// Of Gradient too, whose output is little work.
	wantFault(t, "too much work", must(t, head+"out x, u"), gradient(0), 0, api.ErrNodes)
	// Ahead of the limits of what is worked out, and of work without bound.
	wantFault(t, "too much work", must(t, head+"out 1 / 0, u"), call{name: "Text"}, 0, api.ErrNodes)
	long := "in x\nfn f0(a) = a + a\n"
	for i := range 60 {
		long += fmt.Sprintf("fn f%d(a) = f%d(f%d(a))\n", i+1, i, i)
	}
	wantFault(t, "work without end", must(t, long+"out f60(x)"), call{name: "Text"}, 0, api.ErrNodes)
	// Lets are shared: with copies it would be far too much.
	shared := "in x\nlet u0 = x\n"
	for i := range 40 {
		shared += fmt.Sprintf("let u%d = u%d + u%d\n", i+1, i, i)
	}
	wantTexts(t, shared+"out u40", "1099511627776*x")
}
