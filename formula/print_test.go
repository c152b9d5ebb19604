package formula_test

import (
	"fmt"
	"math"
	"slices"
	"strconv"
	"strings"
	"testing"

	"slope/api"
	"slope/formula"
	"slope/natural"
	"slope/rational"
)

// inBrackets tells whether kid number n of a parent stands in brackets: the chapter's rule, word by word.
func inBrackets(parent api.ExprKind, n int, kid api.ExprKind) bool {
	sum := func(k api.ExprKind) bool { return k == api.ExprAdd || k == api.ExprSub }
	product := func(k api.ExprKind) bool { return k == api.ExprMul || k == api.ExprDiv }
	switch {
	case sum(kid):
		return product(parent) || parent == api.ExprNeg || parent == api.ExprPow || sum(parent) && n == 1
	case product(kid):
		return parent == api.ExprNeg || parent == api.ExprPow || product(parent) && n == 1
	case kid == api.ExprNeg, kid == api.ExprPow:
		return parent == api.ExprPow
	}
	return false
}

// write is a part's text.
func (p *part) write() string {
	var kids []string
	for i, k := range p.kids {
		s := k.write()
		if inBrackets(p.x.Kind, i, k.x.Kind) {
			s = "(" + s + ")"
		}
		kids = append(kids, s)
	}
	list := "(" + strings.Join(kids, ", ") + ")"
	switch p.x.Kind {
	case api.ExprNumber:
		s, _ := rational.Print(p.x.Num)
		if strings.ContainsAny(s, "-/") {
			s = "[" + s + "]"
		}
		return s
	case api.ExprName:
		return p.x.Name
	case api.ExprNeg:
		return "-" + kids[0]
	case api.ExprPow:
		return kids[0] + "^" + strconv.Itoa(p.x.N)
	case api.ExprSum:
		return "sum" + list
	case api.ExprProd:
		return "prod" + list
	case api.ExprCall:
		return p.x.Name + list
	}
	mark := map[api.ExprKind]string{api.ExprAdd: " + ", api.ExprSub: " - ", api.ExprMul: " * ", api.ExprDiv: " / "}
	return kids[0] + mark[p.x.Kind] + kids[1]
}

// write is a sketch's text.
func (s sketch) write() string {
	text := ""
	if len(s.inputs) > 0 {
		text = "in " + strings.Join(s.inputs, ", ") + "\n"
	}
	for _, f := range s.funcs {
		text += "fn " + f.name + "(" + strings.Join(f.params, ", ") + ") = " + f.top.write() + "\n"
	}
	for _, l := range s.lets {
		text += "let " + l.name + " = " + l.top.write() + "\n"
	}
	var outs []string
	for _, p := range s.outs {
		outs = append(outs, p.write())
	}
	return text + "out " + strings.Join(outs, ", ") + "\n"
}

// wantPrint fails if it is not that text.
func wantPrint(t *testing.T, m api.Model, want string) {
	t.Helper()
	if s, e := formula.Print(m); e != api.OK || s != want {
		t.Errorf("Print: %q, error %d, want %q", short(s), e, short(want))
	}
}

// wantNoPrint fails if it is not refused so.
func wantNoPrint(t *testing.T, what string, m api.Model, want api.Errno) {
	t.Helper()
	if at, e := formula.Check(m); e != api.OK {
		t.Errorf("%s: Check: place %d, error %d", what, at, e)
	}
	if s, e := formula.Print(m); e != want || s != "" {
		t.Errorf("%s: Print: %q, error %d, want error %d alone", what, short(s), e, want)
	}
}

// P4.5, and the chapter's examples.
func TestPrint(t *testing.T) {
	wantPrint(t, must(t, "in x, y\nlet u = x*y + 1.5\nout u^2/(x - y), sum(x, u)"), "in x, y\nlet u = x * y + [3/2]\nout u^2 / (x - y), sum(x, u)\n")
	for _, s := range []string{
		"--x", "(-x)^2", "-x^2", "x * -y", "x - (y + z)", "[-1]", "sum()", "prod()", "2 - 3 - x", "2 / (x * 3)", "x - y + z", "x + (y - z)", "x + y * z", "(x + y) * z", "x * (y + z)", "x * y * z", "x * (y * z)", "x / y / z", "x / (y / z)",
		"x * y / z", "x * (y / z)", "-(x + y)", "-(x * y)", "-(x / y)", "-x * y", "-x + y", "x + -y", "x - -y", "-x - -y", "(x + y)^2", "(x * y)^-3", "(x^2)^3", "x^0", "x^-1024", "[-1]^2", "[1/2]^2", "3^2", "-3", "-[-3]", "sum(x + y, x - y)", "prod(x * y, -x, x^2)",
		"sum(x)^2", "-sum(x)", "prod(sum(), prod())", "f(x + y, -z)", "f(x, y)^2", "-f(1, 2)", "g()", "sum(x + (y + z), (x - y) * z)", "---x", "(--x)^1", "x * --y", "0", "12345678901234567890", "[-12345678901234567890/7]",
	} {
		text := "in x, y, z\nfn f(a, b) = a\nfn g() = 1\nlet u = x\nout " + s + ", u\n"
		wantPrint(t, must(t, text), text)
	}
	wantPrint(t, must(t, "out 1"), "out 1\n")
	wantPrint(t, must(t, "fn f()=0.5\nout f()"), "fn f() = [1/2]\nout f()\n")
	wantPrint(t, must(t, "out ((1)),(2)\nin q\nlet u=[4/2]\nin p\nfn f(a,b)=(a)"), "in q, p\nfn f(a, b) = a\nlet u = 2\nout 1, 2\n")
}

// P4.5: each kind as each kid of each kind.
func TestPrintBrackets(t *testing.T) {
	kinds := []api.ExprKind{api.ExprNumber, api.ExprName, api.ExprNeg, api.ExprAdd, api.ExprSub, api.ExprMul, api.ExprDiv, api.ExprPow, api.ExprSum, api.ExprProd, api.ExprCall}
	x := func() *part { return &part{x: name("x")} }
	one := func(k api.ExprKind) *part {
		p := &part{x: api.Expr{Kind: k}}
		switch k {
		case api.ExprNumber:
			p.x.Num = num("-1")
		case api.ExprName:
			return x()
		case api.ExprNeg:
			p.kids = []*part{x()}
		case api.ExprPow:
			p.x.N = 2
			p.kids = []*part{x()}
		case api.ExprCall:
			p.x.Name = "f"
			p.kids = []*part{x(), x()}
		default:
			p.kids = []*part{x(), x()}
		}
		return p
	}
	f := body{name: "f", params: []string{"a", "b"}, top: &part{x: name("a")}}
	for _, outer := range kinds[2:] {
		for _, inner := range kinds {
			for i := range one(outer).kids {
				p := one(outer)
				p.kids[i] = one(inner)
				s := sketch{inputs: []string{"x"}, funcs: []body{f}, outs: []*part{p}}
				wantPrint(t, s.tidy(), s.write())
				wantModel(t, s.write(), s.tidy())
			}
		}
	}
}

// P4.5: models at random, however their nodes are numbered.
func TestPrintAtRandom(t *testing.T) {
	t.Parallel()
	d := dice(6)
	for range 4000 {
		s := d.sketch(1 + d.next(5))
		wantPrint(t, s.mixed(&d), s.write())
	}
}

// chain is a model of n nodes of one kind over one another, the number 1 below.
func chain(n int, x api.Expr) api.Model {
	m := api.Model{Nodes: []api.Expr{number("1")}, Outs: []int{n}}
	for i := range n {
		y := x
		y.Kids = []int{i}
		m.Nodes = append(m.Nodes, y)
	}
	return m
}

// P4.5: brackets MaxDeep deep, and one deeper.
func TestPrintDeep(t *testing.T) {
	for _, n := range []int{1, 63, 64, 65, 66, 1000} {
		sum := chain(n, op(api.ExprSum))
		powers := chain(n+1, power(2, 0))
		calls := chain(n, call("f"))
		calls.Funcs = []api.Func{{Name: "f", Params: []string{"a"}, Body: n + 1}}
		calls.Nodes = append(calls.Nodes, name("a"))
		if n > 64 {
			wantNoPrint(t, "sums", sum, api.ErrDeep)
			wantNoPrint(t, "powers", powers, api.ErrDeep)
			wantNoPrint(t, "calls", calls, api.ErrDeep)
			continue
		}
		wantPrint(t, sum, "out "+strings.Repeat("sum(", n)+"1"+strings.Repeat(")", n)+"\n")
		wantPrint(t, powers, "out "+strings.Repeat("(", n)+"1^2"+strings.Repeat(")^2", n)+"\n")
		wantPrint(t, calls, "fn f(a) = a\nout "+strings.Repeat("f(", n)+"1"+strings.Repeat(")", n)+"\n")
	}
	wantPrint(t, chain(4095, op(api.ExprNeg)), "out "+strings.Repeat("-", 4095)+"1\n")
	left := chain(1, op(api.ExprNeg))
	for i := 2; i < 4095; i += 2 {
		left.Nodes = append(left.Nodes, number("1"), op(api.ExprSub, i-1, i))
		left.Outs[0] = i + 1
	}
	wantPrint(t, left, "out -1"+strings.Repeat(" - 1", 2047)+"\n")
}

// list is a model whose one output is the sum of these numbers.
func list(l ...api.Rat) api.Model {
	m := api.Model{Outs: []int{len(l)}}
	x := op(api.ExprSum)
	for i, r := range l {
		m.Nodes = append(m.Nodes, api.Expr{Kind: api.ExprNumber, Num: r})
		x.Kids = append(x.Kids, i)
	}
	m.Nodes = append(m.Nodes, x)
	return m
}

// P4.5: numbers of MaxDigits digits, and of one more; bracketed ones may be longer.
func TestPrintNumbers(t *testing.T) {
	nines := strings.Repeat("9", 1000)
	one := "1" + strings.Repeat("0", 1000)
	wantPrint(t, list(num(nines)), "out sum("+nines+")\n")
	wantNoPrint(t, "10^1000", list(num(one)), api.ErrNumber)
	wantNoPrint(t, "more", list(num("1"), num(one+"0")), api.ErrNumber)
	wantPrint(t, list(num("-"+one)), "out sum([-"+one+"])\n")
	wantPrint(t, list(num("-"+nines)), "out sum([-"+nines+"])\n")
	wantPrint(t, list(num(one+"/"+nines)), "out sum(["+one+"/"+nines+"])\n")
	wantPrint(t, list(num("1/"+one)), "out sum([1/"+one+"])\n")
	limbs := slices.Repeat(api.Nat{math.MaxUint32}, 2048)
	digits, _ := natural.Print(limbs, 10)
	most := api.Rat{Neg: true, Num: limbs, Den: api.Nat{1}}
	wantPrint(t, list(most), "out sum([-"+digits+"])\n")
	wantPrint(t, list(most, num("1/2"), most), "out sum([-"+digits+"], [1/2], [-"+digits+"])\n")
	wantNoPrint(t, "the greatest", list(api.Rat{Num: limbs, Den: api.Nat{1}}), api.ErrNumber)
}

// P4.5: texts of MaxText bytes, and of one more.
func TestPrintLongTexts(t *testing.T) {
	// "out sum(" .. ")\n" is 10 bytes; [-D] has two brackets, a sign and D's digits.
	digits := func(n int) string { return "-" + strings.Repeat("7", n) }
	build := func(last int) api.Model {
		return list(num(digits(19000)), num(digits(19000)), num(digits(19000)), num(digits(last)))
	}
	room := 65536 - 10 - 3*(19003+2) - 3
	s, e := formula.Print(build(room))
	if e != api.OK || len(s) != 65536 {
		t.Errorf("%d bytes, error %d", len(s), e)
	}
	wantNoPrint(t, "one byte more", build(room+1), api.ErrText)
	wantNoPrint(t, "a number more", list(num(digits(19000)), num(digits(19000)), num(digits(19000)), num(digits(19000)), num(digits(19000)), num("1")), api.ErrText)
	long := api.Model{Inputs: []string{strings.Repeat("n", 31)}, Outs: []int{2047}}
	sum := op(api.ExprSum)
	for i := range 2047 {
		long.Nodes = append(long.Nodes, name(long.Inputs[0]))
		sum.Kids = append(sum.Kids, i)
	}
	long.Nodes = append(long.Nodes, sum)
	wantNoPrint(t, "long names", long, api.ErrText)
}

// functions is a model of n functions of 64 parameters each with such names, and one more with so many parameters.
func functions(n, more int, names string) api.Model {
	m := api.Model{Outs: []int{0}, Nodes: []api.Expr{number("1")}}
	for i := range n + 1 {
		f := api.Func{Name: fmt.Sprintf("f%d", i), Body: i + 1}
		params := 64
		if i == n {
			params = more
		}
		for j := range params {
			f.Params = append(f.Params, fmt.Sprintf("%s%d", names, j))
		}
		m.Funcs = append(m.Funcs, f)
		m.Nodes = append(m.Nodes, number("1"))
	}
	return m
}

// P4.5: MaxTokens tokens, and one more, whatever there is among them.
func TestPrintTokens(t *testing.T) {
	t.Parallel()
	head, e := formula.Print(functions(121, 3, "p"))
	if e != api.OK {
		t.Fatalf("Print: error %d", e)
	}
	head = "in x, y\n" + strings.TrimSuffix(head, "out 1\n") + "let u = 1\nout "
	for _, s := range []string{"x", "x^2", "x^-2", "(-x)^-2", "-x", "[-1/2]", "12", "x + y - 1", "x * (y + 1)", "sum()", "prod(x, y)", "f121(x, y, u)", "u, u, u"} {
		text := head + s + ", "
		l, _, _ := formula.Tokens(text + "1")
		text += strings.Repeat("-", 16384-len(l)) + "1\n"
		m := must(t, text)
		wantPrint(t, m, text)
		top := len(m.Nodes) - 1
		m.Nodes = append(m.Nodes, op(api.ExprNeg, top))
		m.Outs[len(m.Outs)-1] = top + 1
		wantNoPrint(t, "a token more, with "+s, m, api.ErrTokens)
	}
	wantNoPrint(t, "many functions", functions(4094, 64, "q"), api.ErrTokens)
}

// P4.5: of several errors the one that comes first in the promise, wherever it stands.
func TestPrintOrderOfErrors(t *testing.T) {
	deep := func(m api.Model) api.Model {
		for range 65 {
			m.Nodes = append(m.Nodes, op(api.ExprSum, len(m.Nodes)-1))
		}
		m.Outs = []int{len(m.Nodes) - 1}
		return m
	}
	top := api.Rat{Num: slices.Repeat(api.Nat{math.MaxUint32}, 2048), Den: api.Nat{1}}
	low := api.Rat{Neg: true, Num: top.Num, Den: api.Nat{1}}
	wantNoPrint(t, "deep, behind a number", deep(list(top)), api.ErrDeep)
	wantNoPrint(t, "deep, behind a long text", deep(list(low, low, low, low, low)), api.ErrDeep)
	wantNoPrint(t, "a number, behind a long text", list(low, low, low, low, low, top), api.ErrNumber)
	tokens := functions(200, 1, strings.Repeat("p", 28))
	wantNoPrint(t, "tokens, and a long text", tokens, api.ErrTokens)
	tokens.Nodes[0] = number("1" + strings.Repeat("0", 1000))
	wantNoPrint(t, "a number, behind tokens", tokens, api.ErrNumber)
	tokens.Nodes[0] = number("1")
	first := len(tokens.Nodes)
	for i := range 65 {
		kid := first + i - 1
		if i == 0 {
			kid = 0
		}
		tokens.Nodes = append(tokens.Nodes, op(api.ExprProd, kid))
	}
	tokens.Outs = []int{len(tokens.Nodes) - 1}
	wantNoPrint(t, "deep, behind tokens", tokens, api.ErrDeep)
}

// P4.5: as many great numbers as there can be; none of their digits need be worked out.
func TestPrintManyGreatNumbers(t *testing.T) {
	limbs := slices.Repeat(api.Nat{math.MaxUint32}, 2048)
	l := slices.Repeat([]api.Rat{{Num: limbs, Den: api.Nat{1}}}, 4095)
	wantNoPrint(t, "great numbers", list(l...), api.ErrNumber)
	l = slices.Repeat([]api.Rat{{Neg: true, Num: limbs, Den: api.Nat{1}}}, 4095)
	wantNoPrint(t, "great numbers below 0", list(l...), api.ErrText)
}
