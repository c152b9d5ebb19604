package formula_test

import (
	"fmt"
	"strings"
	"testing"

	"slope/api"
	"slope/formula"
)

// P4.2, and the chapter's examples.
func TestParse(t *testing.T) {
	wantModel(t, "in x, y\nlet u = x*y + 1.5\nout u^2/(x - y), sum(x, u)", api.Model{
		Inputs: []string{"x", "y"},
		Lets:   []api.Let{{Name: "u", Body: 4}},
		Outs:   []int{10, 13},
		Nodes: []api.Expr{
			name("x"), name("y"), op(api.ExprMul, 0, 1), number("3/2"), op(api.ExprAdd, 2, 3),
			name("u"), power(2, 5), name("x"), name("y"), op(api.ExprSub, 7, 8), op(api.ExprDiv, 6, 9),
			name("x"), name("u"), op(api.ExprSum, 11, 12),
		},
	})
	wantModel(t, "out 1", api.Model{Nodes: []api.Expr{number("1")}, Outs: []int{0}})
	wantModel(t, "in x\nfn f(a, x) = a * x\nout f(x, f(2, 3))", api.Model{
		Inputs: []string{"x"},
		Funcs:  []api.Func{{Name: "f", Params: []string{"a", "x"}, Body: 2}},
		Outs:   []int{7},
		Nodes:  []api.Expr{name("a"), name("x"), op(api.ExprMul, 0, 1), name("x"), number("2"), number("3"), call("f", 4, 5), call("f", 3, 6)},
	})
}

// wantOuts fails if the outputs, with the inputs x and y, are not read as these nodes.
func wantOuts(t *testing.T, text string, outs []int, nodes ...api.Expr) {
	t.Helper()
	wantModel(t, "in x, y\nout "+text, api.Model{Inputs: []string{"x", "y"}, Outs: outs, Nodes: nodes})
}

// P4.2: what binds how.
func TestParseBinding(t *testing.T) {
	x, y, two, three := name("x"), name("y"), number("2"), number("3")
	wantOuts(t, "-x^2", []int{2}, x, power(2, 0), op(api.ExprNeg, 1))
	wantOuts(t, "(-x)^2", []int{2}, x, op(api.ExprNeg, 0), power(2, 1))
	wantOuts(t, "2 - 3 - x", []int{4}, two, three, op(api.ExprSub, 0, 1), x, op(api.ExprSub, 2, 3))
	wantOuts(t, "2 - (3 - x)", []int{4}, two, three, x, op(api.ExprSub, 1, 2), op(api.ExprSub, 0, 3))
	wantOuts(t, "2 / 3 * x", []int{4}, two, three, op(api.ExprDiv, 0, 1), x, op(api.ExprMul, 2, 3))
	wantOuts(t, "2 + 3 * x", []int{4}, two, three, x, op(api.ExprMul, 1, 2), op(api.ExprAdd, 0, 3))
	wantOuts(t, "2 * 3 + x", []int{4}, two, three, op(api.ExprMul, 0, 1), x, op(api.ExprAdd, 2, 3))
	wantOuts(t, "2 * -x", []int{3}, two, x, op(api.ExprNeg, 1), op(api.ExprMul, 0, 2))
	wantOuts(t, "-x * y", []int{3}, x, op(api.ExprNeg, 0), y, op(api.ExprMul, 1, 2))
	wantOuts(t, "-(x * y)", []int{3}, x, y, op(api.ExprMul, 0, 1), op(api.ExprNeg, 2))
	wantOuts(t, "x--y", []int{3}, x, y, op(api.ExprNeg, 1), op(api.ExprSub, 0, 2))
	wantOuts(t, "---x", []int{3}, x, op(api.ExprNeg, 0), op(api.ExprNeg, 1), op(api.ExprNeg, 2))
	wantOuts(t, "x^-1, ((x^2)^3)", []int{1, 4}, x, power(-1, 0), x, power(2, 2), power(3, 3))
	wantOuts(t, "sum(), prod(), sum(x), prod(x, -y)", []int{0, 1, 3, 7}, op(api.ExprSum), op(api.ExprProd), x, op(api.ExprSum, 2), x, y, op(api.ExprNeg, 5), op(api.ExprProd, 4, 6))
	wantOuts(t, "sum(x)^2 / prod(2)", []int{5}, x, op(api.ExprSum, 0), power(2, 1), two, op(api.ExprProd, 3), op(api.ExprDiv, 2, 4))
	wantOuts(t, "(((x)))", []int{0}, x)
}

// P4.2: numbers say what they are.
func TestParseNumbers(t *testing.T) {
	for text, value := range map[string]string{
		"0": "0", "007": "7", "0.25": "1/4", "00.50": "1/2", "12.000": "12", "3.14": "157/50", "0.0": "0",
		"[3]": "3", "[-3]": "-3", "[-6/4]": "-3/2", "[0/7]": "0", "[-0]": "0", "[-0/5]": "0", "[010/005]": "2", "[14/7]": "2",
		"4294967296": "4294967296", "[1/18446744073709551616]": "1/18446744073709551616",
	} {
		wantModel(t, "out "+text, api.Model{Nodes: []api.Expr{number(value)}, Outs: []int{0}})
	}
	nines := strings.Repeat("9", 1000)
	wantModel(t, "out "+nines, api.Model{Nodes: []api.Expr{number(nines)}, Outs: []int{0}})
	wantModel(t, "out ["+nines+"9/"+nines+nines+"]", api.Model{Nodes: []api.Expr{number(nines + "9/" + nines + nines)}, Outs: []int{0}})
	wantModel(t, "out 1."+nines[:998], api.Model{Nodes: []api.Expr{number("1." + nines[:998])}, Outs: []int{0}})
}

// P4.2: powers -MaxPower and MaxPower, and one beyond; digits alone.
func TestParsePowers(t *testing.T) {
	for text, n := range map[string]int{
		"1024": 1024, "-1024": -1024, "0": 0, "-0": 0, "1": 1, " - 7": -7, "0001024": 1024, "-" + strings.Repeat("0", 996) + "1024": -1024,
	} {
		wantOuts(t, "x^"+text, []int{1}, name("x"), power(n, 0))
	}
	for _, text := range []string{"1025", "2.0", "2.5", "[2]", "[-2]", "x", "(2)", "+2", "\n", ",", "^", "18446744073709551616", strings.Repeat("9", 1000)} {
		wantFault(t, "in x\nout x^"+text, 11, api.ErrWant)
		wantFault(t, "in x\nout x^-"+text, 12, api.ErrWant)
	}
	wantFault(t, "in x\nout x^--2", 12, api.ErrWant)
	wantFault(t, "in x\nout x^2^3", 12, api.ErrWant)
	wantFault(t, "in x\nout x^2 ^-3", 13, api.ErrWant)
}

// P4.2: the chapter's refused texts, and more of each kind.
func TestParseFaults(t *testing.T) {
	for _, c := range []struct {
		text string
		at   int
		e    api.Errno
	}{
		{"in x\nout x^2^3", 12, api.ErrWant}, {"in x\nout x^1025", 11, api.ErrWant}, {"in x\nout x +", 12, api.ErrWant}, {"in\nout 1", 2, api.ErrWant}, {"x", 0, api.ErrWant},
		{"in x\nfn f(a) = a * x\nout f(x)", 19, api.ErrName}, {"in x\nfn f(a) = f(a)\nout x", 15, api.ErrName}, {"in x\nfn f(a) = a\nout f()", 21, api.ErrCount},
		{"in x\nlet x = 1\nout x", 9, api.ErrTwice}, {"out y\nin y", 4, api.ErrName}, {"in x\nout 3x", 9, api.ErrNumber}, {"out 1.", 4, api.ErrNumber}, {"out [1/0]", 4, api.ErrNumber},
		{"in x\nout x $ 1", 11, api.ErrByte}, {"", 0, api.ErrEnds}, {"in x\n", 5, api.ErrEnds},
		// Faults of tokens come first, then those of form, then those of meaning, wherever they stand.
		{"+\nout y\n$", 8, api.ErrByte}, {"out y\n+\nout", 6, api.ErrWant}, {"out y\nin x, x\nout", 17, api.ErrWant}, {"let u = v", 9, api.ErrEnds}, {"out y, y\nin", 11, api.ErrWant},
		{"out " + strings.Repeat("(", 65) + " $", 70, api.ErrByte}, {"out y + " + strings.Repeat("(", 65), 72, api.ErrDeep}, {"out +" + strings.Repeat("(", 65), 4, api.ErrWant},
		// A line's end is told at its newline, or at the text's end.
		{"in x, # c\nout 1", 9, api.ErrWant}, {"out 1\nin x, # c", 15, api.ErrWant}, {"out (1 \t\r\n)", 9, api.ErrWant}, {"out 1 1", 6, api.ErrWant}, {"out", 3, api.ErrWant}, {"out  ", 5, api.ErrWant},
		{"# c\n\n \r\n", 8, api.ErrEnds}, {"in x\nlet u = x\nfn f() = 1 # c", 29, api.ErrEnds},
		// Words are no names.
		{"in sum\nout 1", 3, api.ErrWant}, {"in x, in\nout 1", 6, api.ErrWant}, {"let out = 1\nout 1", 4, api.ErrWant}, {"fn fn(a) = a\nout 1", 3, api.ErrWant}, {"fn f(let) = 1\nout 1", 5, api.ErrWant},
		{"fn prod(a) = a\nout 1", 3, api.ErrWant}, {"out in", 4, api.ErrWant}, {"out sum", 7, api.ErrWant}, {"out sum + 1", 8, api.ErrWant}, {"sum(1)", 0, api.ErrWant}, {"out out(1)", 4, api.ErrWant},
		// Lines that lack something.
		{"let u\nout 1", 5, api.ErrWant}, {"let u = \nout 1", 8, api.ErrWant}, {"let u = 1, 2\nout 1", 9, api.ErrWant}, {"let u(a) = a\nout 1", 5, api.ErrWant}, {"fn f = 1\nout 1", 5, api.ErrWant},
		{"fn f(a = 1\nout 1", 7, api.ErrWant}, {"fn f(a,) = 1\nout 1", 7, api.ErrWant}, {"fn f(1) = 1\nout 1", 5, api.ErrWant}, {"fn f(a) a\nout 1", 8, api.ErrWant}, {"in x y\nout 1", 5, api.ErrWant}, {"in x = 1\nout 1", 5, api.ErrWant},
		{"out ()", 5, api.ErrWant}, {"out sum(,1)", 8, api.ErrWant}, {"out sum(1,)", 10, api.ErrWant}, {"out (1, 2)", 6, api.ErrWant}, {"out (1)(2)", 7, api.ErrWant}, {"out 1)", 5, api.ErrWant}, {"out 1(2)", 5, api.ErrWant}, {"out [1]2", 7, api.ErrWant},
	} {
		wantFault(t, c.text, c.at, c.e)
	}
}

// P4.2: brackets MaxDeep deep, and one deeper; those of calls and of sum( ) count.
func TestParseDeep(t *testing.T) {
	nest := func(open string, n int) string { return strings.Repeat(open, n) + "1" + strings.Repeat(")", n) }
	head := "fn f(a) = a\nout "
	for _, open := range []string{"(", "f(", "sum(", "prod(", "-(", "1+("} {
		if _, at, e := formula.Parse(head + nest(open, 64)); at != 0 || e != api.OK {
			t.Errorf("%q 64 deep: place %d, error %d", open, at, e)
		}
		wantFault(t, head+nest(open, 65), len(head)+65*len(open)-1, api.ErrDeep)
		wantFault(t, head+nest(open, 300), len(head)+65*len(open)-1, api.ErrDeep)
		wantFault(t, head+"2 * ("+nest(open, 64)+")", len(head)+5+64*len(open)-1, api.ErrDeep)
	}
	wide := "fn f(a) = a\nout " + strings.Repeat("f((1)) + ", 200) + nest("(", 64) + " + " + nest("f(", 64)
	must(t, wide)
	wantFault(t, head+strings.Repeat("(", 64)+"1 (", len(head)+66, api.ErrWant)
	wantFault(t, head+strings.Repeat("(", 64)+"f f(", len(head)+66, api.ErrWant)
	wantFault(t, "fn f(a) = "+nest("(", 65)+"\nout 1", 74, api.ErrDeep)
}

// numbered are names n0, n1, .. with commas between.
func numbered(n int) string {
	var s strings.Builder
	for i := range n {
		if i > 0 {
			s.WriteString(", ")
		}
		fmt.Fprintf(&s, "n%d", i)
	}
	return s.String()
}

// P4.2: MaxInputs inputs, parameters and MaxOutputs outputs, and one more of each.
func TestParseLimits(t *testing.T) {
	if m := must(t, "in "+numbered(64)+"\nout n63"); len(m.Inputs) != 64 {
		t.Errorf("%d inputs", len(m.Inputs))
	}
	many := "in " + numbered(65) + "\nout n0"
	wantFault(t, many, strings.Index(many, "n64"), api.ErrInputs)
	lines := "in " + numbered(64) + "\nin y\nin z\nout n0"
	wantFault(t, lines, strings.Index(lines, "y"), api.ErrInputs)
	twice := "in " + numbered(64) + ", n0, n1\nout q"
	wantFault(t, twice, strings.LastIndex(twice, "n0"), api.ErrInputs)
	early := "in n0, " + numbered(65) + "\nout n0"
	wantFault(t, early, 7, api.ErrTwice)

	if m := must(t, "fn f("+numbered(64)+") = n63\nout 1"); len(m.Funcs[0].Params) != 64 {
		t.Error("parameters")
	}
	params := "fn f(" + numbered(65) + ") = n64\nout 1"
	wantFault(t, params, strings.Index(params, "n64"), api.ErrCount)
	params = "fn f(" + numbered(64) + ", n0) = n64\nout 1"
	wantFault(t, params, strings.LastIndex(params, "n0"), api.ErrCount)
	called := "fn f(" + numbered(64) + ") = n0\nout f(1" + strings.Repeat(", 1", 63) + ")"
	must(t, called)

	if m := must(t, "out 1"+strings.Repeat(", 1", 63)); len(m.Outs) != 64 {
		t.Error("outputs")
	}
	wantFault(t, "out 1"+strings.Repeat(", 1", 64), 5+3*64-1, api.ErrOutputs)
	outs := "out 1" + strings.Repeat(", 1", 63) + "\nout (y), z"
	wantFault(t, outs, strings.Index(outs, "("), api.ErrOutputs)
	outs = "out 1" + strings.Repeat(", 1", 63) + "\nout y"
	wantFault(t, outs, strings.Index(outs, "y"), api.ErrOutputs)
	outs = "out 1" + strings.Repeat(", 1", 62) + ", y, 1"
	wantFault(t, outs, strings.Index(outs, "y"), api.ErrName)
}

// P4.2: MaxModel nodes, and one more.
func TestParseManyNodes(t *testing.T) {
	t.Parallel()
	for _, n := range []int{4093, 4095, 4096, 4097, 4098, 8000} {
		for _, text := range []string{
			"out sum(" + strings.Repeat("1,", n-2) + "1)",
			"out " + strings.Repeat("-", n-1) + "1",
			"fn f() = 1\nlet u = f()\nout prod(" + strings.Repeat("u,", n-4) + "u)",
			"out sum() # none\nout -sum(" + strings.Repeat("2,", n-4) + "2)",
		} {
			m, at, e := formula.Parse(text)
			if n <= 4096 && (e != api.OK || at != 0 || len(m.Nodes) != n) {
				t.Errorf("%q: %d nodes, place %d, error %d", short(text), len(m.Nodes), at, e)
			}
			if n > 4096 {
				wantFault(t, text, len(text), api.ErrModel)
			}
		}
	}
	long := "out sum(" + strings.Repeat("1,", 5000) + "y)"
	wantFault(t, long, strings.Index(long, "y"), api.ErrName)
	text := "out " + strings.Repeat("1+", 2047) + "1 # 4095 nodes\nlet u = 1 # 4096\n"
	must(t, text)
	wantFault(t, text+"let v = 1\n", len(text)+10, api.ErrModel)
}

// P4.2: as many tokens and bytes as there may be.
func TestParseLongTexts(t *testing.T) {
	text := "in x\nout x"
	wantModel(t, text+strings.Repeat(" ", 65536-len(text)), must(t, text))
	wantModel(t, strings.Repeat("\n", 65536-len(text))+text, must(t, text))
	wantModel(t, text+"#"+strings.Repeat("x", 65535-len(text)), must(t, text))
	wantFault(t, text+strings.Repeat(" ", 65537-len(text)), 65536, api.ErrText)
	minus := "out " + strings.Repeat("-", 16381) + "1"
	wantFault(t, minus, len(minus), api.ErrModel)
	wantFault(t, "out "+strings.Repeat("-", 16382)+"1", len(minus)+1, api.ErrTokens)
	outs := "out sum(" + strings.Repeat("-(1),", 3275)
	wantFault(t, outs+"1", len(outs)+1, api.ErrWant)
}

// P4.2: faults of meaning, each at its token.
func TestParseMeaning(t *testing.T) {
	for _, c := range []struct {
		text string
		at   int
		e    api.Errno
	}{
		{"in x, x\nout 1", 6, api.ErrTwice}, {"in x\nin x\nout 1", 8, api.ErrTwice}, {"in x\nfn x() = 1\nout 1", 8, api.ErrTwice}, {"let u = 1\nin u\nout 1", 13, api.ErrTwice},
		{"let u = 1\nlet u = 2\nout 1", 14, api.ErrTwice}, {"fn f() = 1\nfn f(a) = 2\nout 1", 14, api.ErrTwice}, {"fn f() = 1\nlet f = 2\nout 1", 15, api.ErrTwice}, {"fn f(a, b, a) = 1\nout 1", 11, api.ErrTwice},
		{"fn f(a, a) = q\nlet f = 1\nout 1", 8, api.ErrTwice}, {"in f\nfn f(a, a) = q\nout 1", 8, api.ErrTwice},
		{"let u = u\nout 1", 8, api.ErrName}, {"let u = v\nlet v = 1\nout 1", 8, api.ErrName}, {"out u\nlet u = 1", 4, api.ErrName}, {"out f(1)\nfn f(a) = a", 4, api.ErrName},
		{"let u = f(1)\nfn f(a) = a\nout 1", 8, api.ErrName}, {"fn g(a) = f(a)\nfn f(a) = a\nout 1", 10, api.ErrName}, {"fn f() = 1\nout f", 15, api.ErrName}, {"in x\nout x(1)", 9, api.ErrName}, {"in x\nout x()", 9, api.ErrName},
		{"let u = 1\nout u(1)", 14, api.ErrName}, {"fn f(a) = a\nfn g(f) = f\nout f", 28, api.ErrName}, {"fn g(f) = f(1)\nout 1", 10, api.ErrName}, {"let u = 1\nfn f() = u\nout 1", 19, api.ErrName}, {"fn f(a) = a\nout a", 16, api.ErrName},
		{"fn f(a) = a\nout f(1, 2)", 16, api.ErrCount}, {"fn f() = 1\nout f(1)", 15, api.ErrCount}, {"fn f(a, b) = a\nout 1 + f(f(1, 2))", 23, api.ErrCount}, {"fn f(a) = a\nfn g() = f()\nout 1", 21, api.ErrCount},
		// The first from the left: a call's name stands ahead of what is in its brackets.
		{"fn f(a) = a\nout f(q, 1)", 16, api.ErrCount}, {"fn f(a) = a\nout f(f(q, 1))", 18, api.ErrCount}, {"fn f(a) = a\nout f(q), f()", 18, api.ErrName}, {"out g(q)", 4, api.ErrName}, {"fn f(a) = a\nout q + f()", 16, api.ErrName},
	} {
		wantFault(t, c.text, c.at, c.e)
	}
	for _, text := range []string{
		"fn f(a) = a\nfn g(f) = f(f)\nout g(1)", "in x\nfn f(x) = x\nout f(x)", "fn f(f) = f\nout f(1)", "fn f() = 1\nout f()", "in a\nfn f(a, b) = a\nfn g(a, f) = f(a, f)\nout g(a, a)",
		"out 1\nin x\nout x\nlet u = x\nout u\nin y\nfn f() = 2\nout f() + y", "in in1, lets, Out, SUM, prod_, fn0\nout in1 + lets + Out + SUM + prod_ + fn0",
	} {
		must(t, text)
	}
}

// P4.2: nodes go function by function, then let by let, then output by output, however the lines stand.
func TestParseOrderOfLines(t *testing.T) {
	want := api.Model{
		Inputs: []string{"x", "y"},
		Funcs:  []api.Func{{Name: "f", Body: 0}, {Name: "g", Params: []string{"a"}, Body: 1}},
		Lets:   []api.Let{{Name: "u", Body: 2}, {Name: "v", Body: 4}},
		Outs:   []int{5, 6, 7},
		Nodes:  []api.Expr{number("1"), name("a"), number("2"), name("u"), call("g", 3), number("3"), name("x"), name("y")},
	}
	wantModel(t, "out 3\nlet u = 2\nin x\nfn f() = 1\nout x\nfn g(a) = a\nin y\nlet v = g(u)\nout y", want)
	wantModel(t, "in x, y\nfn f() = 1\nfn g(a) = a\nlet u = 2\nlet v = g(u)\nout 3, x, y", want)
}
