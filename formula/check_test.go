package formula_test

import (
	"fmt"
	"math"
	"slices"
	"strings"
	"testing"

	"slope/api"
	"slope/formula"
	"slope/rational"
)

// small is a model of every list, to be spoilt.
func small() api.Model {
	return api.Model{
		Inputs: []string{"x", "y"},
		Funcs:  []api.Func{{Name: "f", Params: []string{"a", "x"}, Body: 2}, {Name: "g", Body: 3}},
		Lets:   []api.Let{{Name: "u", Body: 5}, {Name: "v", Body: 6}},
		Outs:   []int{9, 12},
		Nodes: []api.Expr{
			name("a"), name("x"), op(api.ExprMul, 0, 1), // f
			number("3/2"),                 // g
			name("y"), op(api.ExprSum, 4), // u
			name("u"),                             // v
			name("x"), name("v"), call("f", 7, 8), // output 0
			call("g"), power(-2, 10), op(api.ExprNeg, 11), // output 1
		},
	}
}

// wantCheck fails if it is not that place and error, or if another call says otherwise.
func wantCheck(t *testing.T, what string, m api.Model, at int, e api.Errno) {
	t.Helper()
	if gotAt, got := formula.Check(m); gotAt != at || got != e {
		t.Errorf("%s: place %d, error %d, want place %d, error %d", what, gotAt, got, at, e)
	}
	if e == api.OK {
		return
	}
	n, got := formula.Tidy(m)
	if got != e || !same(n, api.Model{}) {
		t.Errorf("%s: Tidy: error %d, want %d alone", what, got, e)
	}
	s, got := formula.Print(m)
	if got != e || s != "" {
		t.Errorf("%s: Print: %q, error %d, want %d alone", what, short(s), got, e)
	}
	a, b, c, got := formula.Uses(m)
	if got != e || len(a)+len(b)+len(c) > 0 {
		t.Errorf("%s: Uses: error %d, want %d alone", what, got, e)
	}
	if formula.Alike(m, m) || formula.Alike(m, small()) || formula.Alike(small(), m) {
		t.Errorf("%s: Alike holds of a model that may not be", what)
	}
}

// spoilt checks small models after a change.
func spoilt(t *testing.T, what string, at int, e api.Errno, change func(m *api.Model)) {
	t.Helper()
	m := small()
	change(&m)
	wantCheck(t, what, m, at, e)
}

// P4.3
func TestCheck(t *testing.T) {
	wantCheck(t, "small", small(), 0, api.OK)
	wantCheck(t, "one number", api.Model{Nodes: []api.Expr{number("1")}, Outs: []int{0}}, 0, api.OK)
	for _, s := range []string{"in x, y\nlet u = x*y + 1.5\nout u^2/(x - y), sum(x, u)", "in x\nfn f(a, x) = a * x\nout f(x, f(2, 3))", "out sum(), prod(), [0]"} {
		wantCheck(t, s, must(t, s), 0, api.OK)
	}
	wantCheck(t, "nothing", api.Model{}, -1, api.ErrOutputs)
	empty := api.Expr{Kind: api.ExprSum, Kids: []int{}, Num: api.Rat{Num: api.Nat{}, Den: api.Nat{}}}
	wantCheck(t, "empty lists", api.Model{Inputs: []string{}, Funcs: []api.Func{{Name: "f", Params: []string{}}}, Lets: []api.Let{}, Outs: []int{1}, Nodes: []api.Expr{empty, empty}}, 0, api.OK)
}

// texts are n names, all unlike one another.
func texts(n int) []string {
	l := make([]string, n)
	for i := range l {
		l[i] = fmt.Sprintf("n%d", i)
	}
	return l
}

// P4.3, step 1: how many there may be.
func TestCheckSizes(t *testing.T) {
	spoilt(t, "64 inputs", 0, api.OK, func(m *api.Model) { m.Inputs = append(m.Inputs, texts(62)...) })
	spoilt(t, "65 inputs", -1, api.ErrInputs, func(m *api.Model) { m.Inputs = append(m.Inputs, texts(63)...) })
	spoilt(t, "no outputs", -1, api.ErrOutputs, func(m *api.Model) { m.Outs = nil })
	outs := func(n int) func(m *api.Model) {
		return func(m *api.Model) {
			for range n - 2 {
				m.Outs = append(m.Outs, len(m.Nodes))
				m.Nodes = append(m.Nodes, number("1"))
			}
		}
	}
	spoilt(t, "64 outputs", 0, api.OK, outs(64))
	spoilt(t, "65 outputs", -1, api.ErrOutputs, outs(65))
	sum := func(n int) api.Model {
		m := api.Model{Nodes: slices.Repeat([]api.Expr{number("1")}, n-1), Outs: []int{n - 1}}
		x := op(api.ExprSum)
		for i := range n - 1 {
			x.Kids = append(x.Kids, i)
		}
		m.Nodes = append(m.Nodes, x)
		return m
	}
	wantCheck(t, "4096 nodes", sum(4096), 0, api.OK)
	wantCheck(t, "4097 nodes", sum(4097), -1, api.ErrModel)
	for _, n := range []int{4095, 4096, 4097} {
		at, e := 0, api.OK
		if n > 4095 { // with an output there are more of them than nodes
			at, e = -1, api.ErrModel
		}
		nodes := slices.Repeat([]api.Expr{number("1")}, 4096)
		funcs := api.Model{Nodes: nodes, Outs: []int{4095}}
		lets := api.Model{Nodes: nodes, Outs: []int{4095}}
		for i, s := range texts(n) {
			funcs.Funcs = append(funcs.Funcs, api.Func{Name: s, Body: i})
			lets.Lets = append(lets.Lets, api.Let{Name: s, Body: i})
		}
		wantCheck(t, fmt.Sprint(n, " functions"), funcs, at, e)
		wantCheck(t, fmt.Sprint(n, " lets"), lets, at, e)
		// What is too much is told ahead of names.
		want := api.ErrName
		if n > 4096 {
			want = api.ErrModel
		}
		funcs.Funcs[7].Name, lets.Lets[7].Name = "", ""
		wantCheck(t, fmt.Sprint(n, " functions, one without a name"), funcs, -1, want)
		wantCheck(t, fmt.Sprint(n, " lets, one without a name"), lets, -1, want)
	}
	spoilt(t, "64 parameters", 0, api.OK, func(m *api.Model) { m.Funcs[1].Params = texts(64); m.Nodes[10].Kids = nil; callWith(m, 64) })
	spoilt(t, "65 parameters", -1, api.ErrModel, func(m *api.Model) { m.Funcs[1].Params = texts(65); callWith(m, 65) })
	spoilt(t, "inputs ahead of outputs", -1, api.ErrInputs, func(m *api.Model) { m.Inputs, m.Outs, m.Funcs[0].Params = texts(65), nil, texts(65) })
	spoilt(t, "outputs ahead of the rest", -1, api.ErrOutputs, func(m *api.Model) { m.Outs, m.Funcs[0].Params, m.Inputs[0] = nil, texts(65), "" })
	spoilt(t, "sizes ahead of names", -1, api.ErrModel, func(m *api.Model) { m.Funcs[1].Params, m.Inputs[0] = texts(65), "" })
}

// callWith gives the call of g n kids, by nodes that are put ahead.
func callWith(m *api.Model, n int) {
	move := func(l []int) []int {
		z := make([]int, len(l))
		for i, k := range l {
			z[i] = k + n
		}
		return z
	}
	for i := range m.Nodes {
		m.Nodes[i].Kids = move(m.Nodes[i].Kids)
	}
	for i := range m.Funcs {
		m.Funcs[i].Body += n
	}
	for i := range m.Lets {
		m.Lets[i].Body += n
	}
	m.Outs = move(m.Outs)
	for i := range n {
		m.Nodes[10].Kids = append(m.Nodes[10].Kids, i)
	}
	m.Nodes = append(slices.Repeat([]api.Expr{number("1")}, n), m.Nodes...)
}

// noNames are texts that are no names.
func noNames() []string {
	return []string{
		"", " ", "1", "9a", "a b", "a-b", "a.b", "a\n", "\x00", "a\x00", "é", "aé", "\xff", "[1]", "(", "sum", "prod", "in", "fn", "let", "out",
		strings.Repeat("n", 32), strings.Repeat("n", 100000), "a ", " a",
	}
}

// P4.3, step 2: the names that are made.
func TestCheckNames(t *testing.T) {
	for _, s := range noNames() {
		q := fmt.Sprintf("%q", short(s))
		spoilt(t, "input "+q, -1, api.ErrName, func(m *api.Model) { m.Inputs[1] = s })
		spoilt(t, "function "+q, -1, api.ErrName, func(m *api.Model) { m.Funcs[1].Name = s })
		spoilt(t, "parameter "+q, -1, api.ErrName, func(m *api.Model) { m.Funcs[0].Params[1] = s })
		spoilt(t, "let "+q, -1, api.ErrName, func(m *api.Model) { m.Lets[0].Name = s })
	}
	spoilt(t, "inputs alike", -1, api.ErrTwice, func(m *api.Model) { m.Inputs[1] = "x" })
	spoilt(t, "a function like an input", -1, api.ErrTwice, func(m *api.Model) { m.Funcs[0].Name = "x" })
	spoilt(t, "functions alike", -1, api.ErrTwice, func(m *api.Model) { m.Funcs[1].Name = "f" })
	spoilt(t, "parameters alike", -1, api.ErrTwice, func(m *api.Model) { m.Funcs[0].Params[1] = "a" })
	spoilt(t, "a let like an input", -1, api.ErrTwice, func(m *api.Model) { m.Lets[0].Name = "x" })
	spoilt(t, "a let like a function", -1, api.ErrTwice, func(m *api.Model) { m.Lets[1].Name = "f" })
	spoilt(t, "lets alike", -1, api.ErrTwice, func(m *api.Model) { m.Lets[1].Name = "u" })
	for _, s := range []string{"x", "y", "f", "g", "u", "v", "b", strings.Repeat("_", 31), "A9", "sum1", "Let"} {
		spoilt(t, "a parameter "+s, 0, api.OK, func(m *api.Model) {
			m.Funcs[0].Params[0], m.Nodes[0].Name = s, s
			if s == "x" {
				m.Funcs[0].Params[1], m.Nodes[1].Name = "a", "a"
			}
		})
	}
	// The first of them all is told.
	spoilt(t, "input, function", -1, api.ErrTwice, func(m *api.Model) { m.Inputs[1], m.Funcs[0].Name = "x", "1" })
	spoilt(t, "input, later input", -1, api.ErrName, func(m *api.Model) { m.Inputs[0], m.Inputs[1] = "1", "1" })
	spoilt(t, "function, its parameter", -1, api.ErrTwice, func(m *api.Model) { m.Funcs[0].Name, m.Funcs[0].Params[0] = "x", "1" })
	spoilt(t, "parameter, next function", -1, api.ErrName, func(m *api.Model) { m.Funcs[0].Params[1], m.Funcs[1].Name = "1", "f" })
	spoilt(t, "function, let", -1, api.ErrTwice, func(m *api.Model) { m.Funcs[1].Name, m.Lets[0].Name = "f", "1" })
	spoilt(t, "names ahead of nodes", -1, api.ErrTwice, func(m *api.Model) { m.Lets[1].Name, m.Nodes[0].Kind = "u", 0 })
}

// P4.3, step 3: kinds and fields.
func TestCheckFields(t *testing.T) {
	for _, k := range []api.ExprKind{0, -1, 12, 13, 256, math.MinInt, math.MaxInt} {
		spoilt(t, fmt.Sprint("kind ", k), 6, api.ErrModel, func(m *api.Model) { m.Nodes[6].Kind = k })
	}
	one := map[api.ExprKind]api.Expr{
		api.ExprNumber: number("0"), api.ExprName: name("x"), api.ExprNeg: op(api.ExprNeg, 0), api.ExprAdd: op(api.ExprAdd, 0, 1), api.ExprSub: op(api.ExprSub, 0, 1),
		api.ExprMul: op(api.ExprMul, 0, 1), api.ExprDiv: op(api.ExprDiv, 0, 1), api.ExprPow: power(2, 0), api.ExprSum: op(api.ExprSum, 0, 1, 2), api.ExprProd: op(api.ExprProd, 0), api.ExprCall: call("f", 0),
	}
	build := func(x api.Expr, kids int) api.Model {
		m := api.Model{Inputs: []string{"x"}, Funcs: []api.Func{{Name: "f", Params: []string{"a"}, Body: 0}}, Outs: []int{kids + 1}}
		m.Nodes = append([]api.Expr{name("a")}, slices.Repeat([]api.Expr{number("7")}, kids)...)
		x.Kids = nil
		for i := range kids {
			x.Kids = append(x.Kids, i+1)
		}
		m.Nodes = append(m.Nodes, x)
		return m
	}
	numbers, names, powers := []api.ExprKind{api.ExprNumber}, []api.ExprKind{api.ExprName, api.ExprCall}, []api.ExprKind{api.ExprPow}
	changes := []struct {
		field  string
		users  []api.ExprKind
		change func(x *api.Expr)
	}{
		{"Name", names, func(x *api.Expr) { x.Name = "x" }}, {"a wrong Name", names, func(x *api.Expr) { x.Name = " " }},
		{"Neg", numbers, func(x *api.Expr) { x.Num.Neg = true }}, {"Num", numbers, func(x *api.Expr) { x.Num.Num = api.Nat{1} }},
		{"Den", numbers, func(x *api.Expr) { x.Num.Den = api.Nat{0} }}, {"a number", numbers, func(x *api.Expr) { x.Num = num("-1/2") }},
		{"N", powers, func(x *api.Expr) { x.N = 1 }}, {"N below 0", powers, func(x *api.Expr) { x.N = -1 }}, {"a great N", nil, func(x *api.Expr) { x.N = math.MinInt }},
	}
	for kind, x := range one {
		n := len(x.Kids)
		what := fmt.Sprint("kind ", kind)
		wantCheck(t, what, build(x, n), 0, api.OK)
		for kids := range 5 {
			anyKids := kind == api.ExprSum || kind == api.ExprProd
			if kids == n || anyKids {
				wantCheck(t, what, build(x, kids), 0, api.OK)
			} else if kind == api.ExprCall {
				wantCheck(t, what, build(x, kids), kids+1, api.ErrCount)
			} else {
				wantCheck(t, fmt.Sprint(what, ", kids ", kids), build(x, kids), kids+1, api.ErrModel)
			}
		}
		for _, c := range changes {
			if slices.Contains(c.users, kind) {
				continue
			}
			y := x
			c.change(&y)
			wantCheck(t, what+" with "+c.field, build(y, n), n+1, api.ErrModel)
		}
	}
	for _, n := range []int{-1024, 1024, 0} {
		wantCheck(t, fmt.Sprint("power ", n), build(power(n, 0), 1), 0, api.OK)
	}
	for _, n := range []int{-1025, 1025, math.MinInt, math.MaxInt} {
		wantCheck(t, fmt.Sprint("power ", n), build(power(n, 0), 1), 2, api.ErrModel)
	}
}

// P4.3, step 3: kids are earlier nodes that nothing else uses.
func TestCheckKids(t *testing.T) {
	for _, k := range []int{2, 3, 12, 13, -1, math.MinInt, math.MaxInt} {
		spoilt(t, fmt.Sprint("first kid ", k), 2, api.ErrModel, func(m *api.Model) { m.Nodes[2].Kids[0] = k })
		spoilt(t, fmt.Sprint("second kid ", k), 2, api.ErrModel, func(m *api.Model) { m.Nodes[2].Kids[1] = k })
	}
	spoilt(t, "kids alike", 2, api.ErrModel, func(m *api.Model) { m.Nodes[2].Kids[1] = 0 })
	spoilt(t, "a kid of two nodes", 5, api.ErrModel, func(m *api.Model) { m.Nodes[5].Kids[0] = 1 })
	spoilt(t, "a kid of two nodes, late", 12, api.ErrModel, func(m *api.Model) { m.Nodes[12].Kids[0] = 8 })
	spoilt(t, "kids alike in a sum", 5, api.ErrModel, func(m *api.Model) { m.Nodes[5].Kids = []int{4, 3, 4} })
	spoilt(t, "many kids", 5, api.ErrModel, func(m *api.Model) { m.Nodes[5].Kids = make([]int, 1000000) })
	spoilt(t, "a kid of the first node", 0, api.ErrModel, func(m *api.Model) { m.Nodes[0] = op(api.ExprNeg, 0) })
	twice := api.Model{Inputs: []string{"x"}, Nodes: []api.Expr{name("x"), op(api.ExprAdd, 0, 0)}, Outs: []int{1}}
	wantCheck(t, "x + x of one node", twice, 1, api.ErrModel)
}

// wrongNumbers are numbers that may not be.
func wrongNumbers() []api.Rat {
	one := api.Nat{1}
	return []api.Rat{
		{}, {Num: one}, {Den: api.Nat{2}}, {Neg: true, Den: one}, {Num: api.Nat{2}, Den: api.Nat{4}}, {Num: api.Nat{6}, Den: api.Nat{3}}, {Num: one, Den: api.Nat{0}},
		{Num: api.Nat{1, 0}, Den: one}, {Num: one, Den: api.Nat{1, 0}}, {Num: make(api.Nat, 2049), Den: one}, {Num: append(make(api.Nat, 2048), 1), Den: one}, {Num: one, Den: append(make(api.Nat, 2048), 1)},
	}
}

// P4.3, step 3: numbers and names; of one node ErrModel comes first, of more the first node.
func TestCheckNumbersAndNames(t *testing.T) {
	for i, r := range wrongNumbers() {
		spoilt(t, fmt.Sprint("wrong number ", i), 3, api.ErrRat, func(m *api.Model) { m.Nodes[3].Num = r })
		spoilt(t, fmt.Sprint("wrong number with a field, ", i), 3, api.ErrModel, func(m *api.Model) { m.Nodes[3].Num = r; m.Nodes[3].N = 1 })
		spoilt(t, fmt.Sprint("wrong number ahead of a kind, ", i), 3, api.ErrRat, func(m *api.Model) { m.Nodes[3].Num = r; m.Nodes[4].Kind = 0 })
		spoilt(t, fmt.Sprint("wrong number behind a name, ", i), 1, api.ErrName, func(m *api.Model) { m.Nodes[3].Num = r; m.Nodes[1].Name = "" })
		spoilt(t, fmt.Sprint("wrong number ahead of bodies, ", i), 3, api.ErrRat, func(m *api.Model) { m.Nodes[3].Num = r; m.Outs[0] = -1; m.Nodes[0].Name = "q" })
	}
	most := api.Rat{Num: slices.Repeat(api.Nat{math.MaxUint32}, 2048), Den: api.Nat{1}}
	spoilt(t, "the greatest number", 0, api.OK, func(m *api.Model) { m.Nodes[3].Num = most })
	for _, s := range noNames() {
		spoilt(t, fmt.Sprintf("name %q", short(s)), 6, api.ErrName, func(m *api.Model) { m.Nodes[6].Name = s })
		spoilt(t, fmt.Sprintf("call %q", short(s)), 9, api.ErrName, func(m *api.Model) { m.Nodes[9].Name = s })
		spoilt(t, fmt.Sprintf("call %q with a kid that is none", short(s)), 9, api.ErrModel, func(m *api.Model) { m.Nodes[9].Name = s; m.Nodes[9].Kids[1] = 9 })
	}
	spoilt(t, "no name ahead of what means nothing", 6, api.ErrName, func(m *api.Model) { m.Nodes[6].Name = ""; m.Nodes[0].Name = "q" })
	spoilt(t, "no name ahead of unused nodes", 6, api.ErrName, func(m *api.Model) { m.Nodes[6].Name = ""; m.Nodes[5].Kids = nil })
}

// P4.3, step 4: bodies and outputs are nodes that nothing else uses, and each node is used.
func TestCheckBodies(t *testing.T) {
	for _, k := range []int{13, -1, math.MinInt, math.MaxInt, 0, 1, 4, 7, 11} {
		what := fmt.Sprint(" at ", k)
		spoilt(t, "function"+what, -1, api.ErrModel, func(m *api.Model) { m.Funcs[0].Body = k })
		spoilt(t, "let"+what, -1, api.ErrModel, func(m *api.Model) { m.Lets[1].Body = k })
		spoilt(t, "output"+what, -1, api.ErrModel, func(m *api.Model) { m.Outs[1] = k })
	}
	spoilt(t, "functions alike", -1, api.ErrModel, func(m *api.Model) { m.Funcs[1].Body = 2 })
	spoilt(t, "a let like a function", -1, api.ErrModel, func(m *api.Model) { m.Lets[0].Body = 3 })
	spoilt(t, "outputs alike", -1, api.ErrModel, func(m *api.Model) { m.Outs[1] = 9 })
	spoilt(t, "an output twice", -1, api.ErrModel, func(m *api.Model) { m.Outs = append(m.Outs, 12) })
	spoilt(t, "an output like a let", -1, api.ErrModel, func(m *api.Model) { m.Outs[0] = 5 })
	spoilt(t, "bodies ahead of unused nodes", -1, api.ErrModel, func(m *api.Model) { m.Outs[1] = 9; m.Nodes[5].Kids = nil })
	spoilt(t, "bodies ahead of meaning", -1, api.ErrModel, func(m *api.Model) { m.Outs[1] = 9; m.Nodes[0].Name = "q" })
	spoilt(t, "an unused kid", 4, api.ErrModel, func(m *api.Model) { m.Nodes[5].Kids = nil })
	spoilt(t, "two unused nodes", 4, api.ErrModel, func(m *api.Model) { m.Nodes[5].Kids = nil; m.Outs = m.Outs[:1] })
	spoilt(t, "an unused output", 12, api.ErrModel, func(m *api.Model) { m.Outs = m.Outs[:1] })
	spoilt(t, "an unused first node", 0, api.ErrModel, func(m *api.Model) { m.Nodes[2] = op(api.ExprNeg, 1) })
	spoilt(t, "unused nodes ahead of meaning", 12, api.ErrModel, func(m *api.Model) { m.Outs = m.Outs[:1]; m.Nodes[0].Name = "q" })
	wantCheck(t, "an output without nodes", api.Model{Outs: []int{0}}, -1, api.ErrModel)
}

// P4.3, step 5: what names and calls mean.
func TestCheckMeaning(t *testing.T) {
	named := func(what string, node int, s string, at int, e api.Errno) {
		t.Helper()
		spoilt(t, what, at, e, func(m *api.Model) { m.Nodes[node].Name = s })
	}
	named("in a function: an input", 0, "y", 0, api.ErrName)
	named("in a function: a let", 0, "u", 0, api.ErrName)
	named("in a function: itself", 0, "f", 0, api.ErrName)
	named("in a function: a parameter", 0, "x", 0, api.OK)
	named("in a let: an input", 6, "x", 0, api.OK)
	named("in a let: itself", 6, "v", 6, api.ErrName)
	named("in a let: a later one", 4, "v", 4, api.ErrName)
	named("in a let: a function", 4, "f", 4, api.ErrName)
	named("in a let: a parameter", 4, "a", 4, api.ErrName)
	named("in an output: an input", 7, "y", 0, api.OK)
	named("in an output: any let", 7, "u", 0, api.OK)
	named("in an output: a function", 7, "f", 7, api.ErrName)
	named("in an output: nothing", 8, "q", 8, api.ErrName)
	named("a call of an input", 9, "x", 9, api.ErrName)
	named("a call of a let", 10, "u", 10, api.ErrName)
	named("a call of nothing", 9, "q", 9, api.ErrName)
	named("a call with too many", 9, "g", 9, api.ErrCount)
	named("a call with too few", 10, "f", 10, api.ErrCount)
	calls := func(what, own string, at int, e api.Errno) {
		t.Helper()
		spoilt(t, what, at, e, func(m *api.Model) {
			m.Nodes[3] = call(own)
			m.Funcs = append(m.Funcs, api.Func{Name: "h", Body: 13})
			m.Nodes = append(m.Nodes, number("1"))
		})
	}
	calls("a function ahead", "f", 3, api.ErrCount)
	calls("the function itself", "g", 3, api.ErrName)
	calls("a later function", "h", 3, api.ErrName)
	calls("a later let", "u", 3, api.ErrName)
	spoilt(t, "nodes in order", 4, api.ErrName, func(m *api.Model) { m.Nodes[4].Name = "q"; m.Nodes[9].Name = "g" })
	own := api.Model{
		Funcs: []api.Func{{Name: "f", Params: []string{"a"}, Body: 0}, {Name: "h", Params: []string{"f"}, Body: 2}}, Outs: []int{3},
		Nodes: []api.Expr{name("a"), name("f"), call("f", 1), number("1")},
	}
	wantCheck(t, "a parameter and a call of one name", own, 0, api.OK)
	// Nodes of all bodies may be mixed: the least one's fault is told, whosever it is.
	mixed := api.Model{
		Funcs: []api.Func{{Name: "f", Params: []string{"a"}, Body: 3}}, Lets: []api.Let{{Name: "u", Body: 2}}, Outs: []int{4},
		Nodes: []api.Expr{name("u"), name("a"), number("1"), op(api.ExprNeg, 1), op(api.ExprNeg, 0)},
	}
	wantCheck(t, "mixed", mixed, 0, api.OK)
	mixed.Nodes[0].Name, mixed.Nodes[1].Name = "a", "u"
	wantCheck(t, "mixed", mixed, 0, api.ErrName)
	mixed.Nodes[0].Name = "u"
	wantCheck(t, "mixed", mixed, 1, api.ErrName)
}

// plainCheck says what Check says, step by step as the chapter has it, by counting.
func plainCheck(m api.Model) (int, api.Errno) {
	for _, step := range []func(api.Model) (int, api.Errno){plainSizes, plainNames, plainNodes, plainBodies, plainMeanings} {
		if at, e := step(m); e != api.OK {
			return at, e
		}
	}
	return 0, api.OK
}

func plainSizes(m api.Model) (int, api.Errno) {
	switch {
	case len(m.Inputs) > 64:
		return -1, api.ErrInputs
	case len(m.Outs) < 1 || len(m.Outs) > 64:
		return -1, api.ErrOutputs
	case len(m.Nodes) > 4096 || len(m.Funcs) > 4096 || len(m.Lets) > 4096 || slices.ContainsFunc(m.Funcs, func(f api.Func) bool { return len(f.Params) > 64 }):
		return -1, api.ErrModel
	}
	return 0, api.OK
}

// isName tells whether it is a name.
func isName(s string) bool {
	return len(s) <= 31 && s != "" && word.FindString(s) == s && !slices.Contains([]string{"in", "fn", "let", "out", "sum", "prod"}, s)
}

func plainNames(m api.Model) (int, api.Errno) {
	first := func(l []string, from int) api.Errno {
		for i := from; i < len(l); i++ {
			if !isName(l[i]) {
				return api.ErrName
			}
			if slices.Contains(l[:i], l[i]) {
				return api.ErrTwice
			}
		}
		return api.OK
	}
	made := slices.Clone(m.Inputs)
	e := first(made, 0)
	for _, f := range m.Funcs {
		made = append(made, f.Name)
		if e == api.OK {
			e = first(made, len(made)-1)
		}
		if e == api.OK {
			e = first(f.Params, 0)
		}
	}
	for _, l := range m.Lets {
		made = append(made, l.Name)
		if e == api.OK {
			e = first(made, len(made)-1)
		}
	}
	return -1, e
}

func plainNodes(m api.Model) (int, api.Errno) {
	used := []int{}
	for i, x := range m.Nodes {
		number, named, powered := x.Kind == api.ExprNumber, x.Kind == api.ExprName || x.Kind == api.ExprCall, x.Kind == api.ExprPow
		counts := map[api.ExprKind]int{api.ExprNumber: 0, api.ExprName: 0, api.ExprNeg: 1, api.ExprPow: 1, api.ExprAdd: 2, api.ExprSub: 2, api.ExprMul: 2, api.ExprDiv: 2, api.ExprSum: len(x.Kids), api.ExprProd: len(x.Kids), api.ExprCall: len(x.Kids)}
		n, ok := counts[x.Kind]
		wrong := !ok || n != len(x.Kids) || !named && x.Name != "" || !powered && x.N != 0 || x.N > 1024 || x.N < -1024
		wrong = wrong || !number && (x.Num.Neg || len(x.Num.Num) != 0 || len(x.Num.Den) != 0)
		for _, k := range x.Kids {
			wrong = wrong || k < 0 || k >= i || slices.Contains(used, k)
			used = append(used, k)
		}
		switch {
		case wrong:
			return i, api.ErrModel
		case number && !rational.May(x.Num):
			return i, api.ErrRat
		case named && !isName(x.Name):
			return i, api.ErrName
		}
	}
	return 0, api.OK
}

// bodiesOf are all bodies and outputs.
func bodiesOf(m api.Model) []int {
	var l []int
	for _, f := range m.Funcs {
		l = append(l, f.Body)
	}
	for _, v := range m.Lets {
		l = append(l, v.Body)
	}
	return append(l, m.Outs...)
}

func plainBodies(m api.Model) (int, api.Errno) {
	var used []int
	for _, x := range m.Nodes {
		used = append(used, x.Kids...)
	}
	for _, k := range bodiesOf(m) {
		if k < 0 || k >= len(m.Nodes) || slices.Contains(used, k) {
			return -1, api.ErrModel
		}
		used = append(used, k)
	}
	for i := range m.Nodes {
		if !slices.Contains(used, i) {
			return i, api.ErrModel
		}
	}
	return 0, api.OK
}

func plainMeanings(m api.Model) (int, api.Errno) {
	faults := map[int]api.Errno{}
	var walk func(i int, values []string, funcs []api.Func)
	walk = func(i int, values []string, funcs []api.Func) {
		x := m.Nodes[i]
		if x.Kind == api.ExprName && !slices.Contains(values, x.Name) {
			faults[i] = api.ErrName
		}
		if x.Kind == api.ExprCall {
			f := slices.IndexFunc(funcs, func(f api.Func) bool { return f.Name == x.Name })
			if f < 0 {
				faults[i] = api.ErrName
			} else if len(funcs[f].Params) != len(x.Kids) {
				faults[i] = api.ErrCount
			}
		}
		for _, k := range x.Kids {
			walk(k, values, funcs)
		}
	}
	for i, f := range m.Funcs {
		walk(f.Body, f.Params, m.Funcs[:i])
	}
	values := slices.Clone(m.Inputs)
	for _, l := range m.Lets {
		walk(l.Body, values, m.Funcs)
		values = append(values, l.Name)
	}
	for _, o := range m.Outs {
		walk(o, values, m.Funcs)
	}
	for i := range m.Nodes {
		if e, ok := faults[i]; ok {
			return i, e
		}
	}
	return 0, api.OK
}

// spoil changes one thing of a model at random.
func (d *dice) spoil(m *api.Model) {
	pool := []string{"x", "y", "f", "g", "u", "v", "a", "", "sum", "q", "9"}
	i := d.next(len(m.Nodes))
	x := &m.Nodes[i]
	where := func() int { return d.next(len(m.Nodes)+2) - 1 }
	switch d.next(14) {
	case 0:
		x.Kind = api.ExprKind(d.next(14) - 1)
	case 1:
		x.Name = pick(d, pool...)
	case 2:
		x.N = pick(d, 0, 1, -1, 1024, 1025, -1025)
	case 3:
		x.Num = pick(d, append(wrongNumbers(), num("1/2"), api.Rat{})...)
	case 4:
		x.Kids = append(slices.Clone(x.Kids), where())
	case 5, 6:
		if len(x.Kids) > 0 {
			x.Kids = slices.Clone(x.Kids)
			x.Kids[d.next(len(x.Kids))] = where()
		}
	case 7:
		if len(m.Funcs) > 0 {
			m.Funcs[d.next(len(m.Funcs))].Body = where()
		}
	case 8:
		if len(m.Lets) > 0 {
			m.Lets[d.next(len(m.Lets))].Body = where()
		}
	case 9:
		m.Outs[d.next(len(m.Outs))] = where()
	case 10:
		if len(m.Funcs) > 0 {
			f := &m.Funcs[d.next(len(m.Funcs))]
			f.Name, f.Params = pick(d, f.Name, pick(d, pool...)), append(f.Params, pick(d, pool...))
		}
	case 11:
		if len(m.Lets) > 0 {
			m.Lets[d.next(len(m.Lets))].Name = pick(d, pool...)
		}
	case 12:
		m.Inputs = append(m.Inputs, pick(d, pool...))
	case 13:
		m.Outs = m.Outs[:d.next(len(m.Outs)+1)]
		if len(m.Outs) == 0 {
			m.Outs = []int{len(m.Nodes) - 1}
		}
	}
}

// P4.3: models spoilt at random.
func TestCheckAtRandom(t *testing.T) {
	t.Parallel()
	d := dice(5)
	seen := map[api.Errno]int{}
	for range 12000 {
		m := d.sketch(1 + d.next(3)).mixed(&d)
		for range d.next(3) {
			d.spoil(&m)
		}
		wantAt, want := plainCheck(m)
		if want == api.OK {
			wantAt = 0
		}
		at, e := formula.Check(m)
		if at != wantAt || e != want {
			t.Fatalf("Check(%s): place %d, error %d, want place %d, error %d", show(m), at, e, wantAt, want)
		}
		seen[e]++
	}
	for _, e := range []api.Errno{api.OK, api.ErrModel, api.ErrRat, api.ErrName, api.ErrTwice, api.ErrCount} {
		if seen[e] < 30 {
			t.Errorf("error %d was met %d times", e, seen[e])
		}
	}
}
