package record_test

import (
	"fmt"
	"testing"

	"slope/api"
	"slope/formula"
	"slope/record"
)

// The ways by what they have.
var (
	copies  = api.Way{Copy: true}
	balance = api.Way{Balance: true}
	fold    = api.Way{Fold: true}
	both    = api.Way{Balance: true, Fold: true}
)

const whole = "in x, y\nlet u = x * y\nout u ^ 2 + x, u / y"

// P6.2: the chapter's examples.
func TestRecordExamples(t *testing.T) {
	wantRecord(t, whole, api.Way{}, "inputs 2; in 0; in 1; mul 0 1; pow 2 2; add 3 0; div 2 1; out 4; out 5")
	wantRecord(t, whole, copies, "inputs 2; in 0; in 1; mul 0 1; pow 2 2; add 3 0; mul 0 1; div 5 1; out 4; out 6")
	wantRecord(t, "in x\nout 2 * 3 + x", api.Way{}, "inputs 1; in 0; const 2; const 3; mul 1 2; add 3 0; out 4")
	wantRecord(t, "in x\nout 2 * 3 + x", fold, "inputs 1; in 0; const 6; add 1 0; out 2")
	five := "in a, b, c, d, e\nout sum(a, b, c, d, e)"
	wantRecord(t, five, api.Way{}, "inputs 5; in 0; in 1; in 2; in 3; in 4; add 0 1; add 5 2; add 6 3; add 7 4; out 8")
	wantRecord(t, five, balance, "inputs 5; in 0; in 1; in 2; in 3; in 4; add 0 1; add 5 2; add 3 4; add 6 7; out 8")
	wantRecord(t, "in x\nout 1 / 0, 7", fold, "inputs 1; in 0; const 1; const 0; div 1 2; const 7; out 3; out 4")
	wantRecord(t, "in x\nlet u = x / 0\nout x", api.Way{}, "inputs 1; in 0; out 0")
	wantRecord(t, "in x\nfn f(a) = a * a\nfn g(a) = f(f(a))\nout g(x + 1)", api.Way{}, "inputs 1; in 0; const 1; add 0 1; mul 2 2; mul 3 3; out 4")
	wantRecord(t, "in x\nfn f(a, b) = b\nout f(1 / 0, x)", api.Way{}, "inputs 1; in 0; out 0")
}

// P6.2: each kind of node, without Fold.
func TestRecordKinds(t *testing.T) {
	wantRecord(t, "in x, y\nout -x, x + y, y - x, x * y, y / x, x^-3, y^0", api.Way{}, "inputs 2; in 0; in 1; neg 0; add 0 1; sub 1 0; mul 0 1; div 1 0; pow 0 -3; pow 1 0; out 2; out 3; out 4; out 5; out 6; out 7; out 8")
	wantRecord(t, "in x, y\nout [-3/2], y, 7, y", api.Way{}, "inputs 2; in 0; in 1; const -3/2; const 7; out 2; out 1; out 3; out 1")
	wantRecord(t, "out 0", api.Way{}, "inputs 0; const 0; out 0")
	wantRecord(t, "in x\nout x^2 / x^2", api.Way{}, "inputs 1; in 0; pow 0 2; pow 0 2; div 1 2; out 3")
}

// P6.2: sums and products of none, of one, of two and of odd numbers, in each way of making them.
func TestRecordMany(t *testing.T) {
	for _, way := range []api.Way{{}, balance} {
		wantRecord(t, "in x\nout sum(), prod()", way, "inputs 1; in 0; const 0; const 1; out 1; out 2")
		wantRecord(t, "in x\nout sum(x), prod(x), sum(2)", way, "inputs 1; in 0; const 2; out 0; out 0; out 1")
		wantRecord(t, "in x, y\nout sum(y, x), prod(x, x)", way, "inputs 2; in 0; in 1; add 1 0; mul 0 0; out 2; out 3")
		wantRecord(t, "in x, y, z\nout prod(z, y, x)", way, "inputs 3; in 0; in 1; in 2; mul 2 1; mul 3 0; out 4")
	}
	for _, way := range []api.Way{fold, both} {
		wantRecord(t, "in x\nout sum(), prod()", way, "inputs 1; in 0; const 0; const 1; out 1; out 2")
		wantRecord(t, "in x\nout sum(), sum(sum(), prod())", way, "inputs 1; in 0; const 0; const 1; out 1; out 2")
		wantRecord(t, "in x\nout sum(x), prod(2) * x", way, "inputs 1; in 0; const 2; mul 1 0; out 0; out 2")
	}
	// All kids ahead of all sums.
	wantRecord(t, "in x\nout sum(-x, x^2, x * x)", api.Way{}, "inputs 1; in 0; neg 0; pow 0 2; mul 0 0; add 1 2; add 4 3; out 5")
	seven := "in a, b, c, d, e, f, g\nout prod(a, b, c, d, e, f, g)"
	wantRecord(t, seven, api.Way{}, "inputs 7; in 0; in 1; in 2; in 3; in 4; in 5; in 6; mul 0 1; mul 7 2; mul 8 3; mul 9 4; mul 10 5; mul 11 6; out 12")
	wantRecord(t, seven, balance, "inputs 7; in 0; in 1; in 2; in 3; in 4; in 5; in 6; mul 0 1; mul 2 3; mul 7 8; mul 4 5; mul 10 6; mul 9 11; out 12")
	// What stands together is folded together.
	mixed := "in x\nout sum(1, 2, x, 3, 4)"
	wantRecord(t, mixed, fold, "inputs 1; in 0; const 3; add 1 0; const 3; add 2 3; const 4; add 4 5; out 6")
	wantRecord(t, mixed, both, "inputs 1; in 0; const 3; add 1 0; const 7; add 2 3; out 4")
}

// P6.2: a let that nobody names, one that is named often, one that is a constant, one that names others.
func TestRecordLets(t *testing.T) {
	often := "in x\nlet u = x * x\nlet v = u + u\nout v * v, u"
	wantRecord(t, often, api.Way{}, "inputs 1; in 0; mul 0 0; add 1 1; mul 2 2; out 3; out 1")
	wantRecord(t, often, copies, "inputs 1; in 0; mul 0 0; mul 0 0; add 1 2; mul 0 0; mul 0 0; add 4 5; mul 3 6; mul 0 0; out 7; out 8")
	// The order is that of naming, not of the lines.
	wantRecord(t, "in x\nlet u = -x\nlet v = x^2\nout v - u, u", api.Way{}, "inputs 1; in 0; pow 0 2; neg 0; sub 1 2; out 3; out 2")
	constant := "in x\nlet u = 2 + 3\nout u * x, u, x * u"
	wantRecord(t, constant, api.Way{}, "inputs 1; in 0; const 2; const 3; add 1 2; mul 3 0; mul 0 3; out 4; out 3; out 5")
	wantRecord(t, constant, fold, "inputs 1; in 0; const 5; mul 1 0; const 5; const 5; mul 0 4; out 2; out 3; out 5")
	wantRecord(t, "in x\nlet u = 7\nout u, u", api.Way{}, "inputs 1; in 0; const 7; out 1; out 1")
	wantRecord(t, "in x\nlet u = 7\nout u, u", copies, "inputs 1; in 0; const 7; const 7; out 1; out 2")
	wantRecord(t, "in x\nlet u = 7\nout u, u", fold, "inputs 1; in 0; const 7; const 7; out 1; out 2")
	wantRecord(t, "in x\nlet u = x\nout u, u", copies, "inputs 1; in 0; out 0; out 0")
	// A refused operation over constants is a node like others.
	wantRecord(t, "in x\nlet u = 1 / 0\nout u, u + 1", fold, "inputs 1; in 0; const 1; const 0; div 1 2; const 1; add 3 4; out 3; out 5")
}

// P6.2: parameters are worked out where they are named first, and not where they aren't.
func TestRecordCalls(t *testing.T) {
	wantRecord(t, "in x, y\nfn f(a, b) = b - a\nout f(-x, y^2)", api.Way{}, "inputs 2; in 0; in 1; pow 1 2; neg 0; sub 2 3; out 4")
	wantRecord(t, "in x\nfn f(a, b) = a * a\nout f(-x, 1 / 0)", api.Way{}, "inputs 1; in 0; neg 0; mul 1 1; out 2")
	wantRecord(t, "in x\nfn f(a) = a * a\nout f(2), f(2)", api.Way{}, "inputs 1; in 0; const 2; mul 1 1; const 2; mul 3 3; out 2; out 4")
	// A parameter hides an input or a let of its name, in its own body alone.
	wantRecord(t, "in x, y\nlet u = -x\nfn f(u, x) = u - x\nout f(y, u) * x", api.Way{}, "inputs 2; in 0; in 1; neg 0; sub 1 2; mul 3 0; out 4")
	// A let is shared by all calls in whose kids it is named.
	shared := "in x\nlet u = -x\nfn f(a) = a^2\nout f(u) + f(u)"
	wantRecord(t, shared, api.Way{}, "inputs 1; in 0; neg 0; pow 1 2; pow 1 2; add 2 3; out 4")
	wantRecord(t, shared, copies, "inputs 1; in 0; neg 0; pow 1 2; neg 0; pow 3 2; add 2 4; out 5")
	// A constant kid is one node in a call without Fold, and one at each use with it.
	wantRecord(t, "in x\nfn f(a, b) = a * b + a\nout f(3, x)", api.Way{}, "inputs 1; in 0; const 3; mul 1 0; add 2 1; out 3")
	wantRecord(t, "in x\nfn f(a, b) = a * b + a\nout f(3, x)", fold, "inputs 1; in 0; const 3; mul 1 0; const 3; add 2 3; out 4")
}

// P6.2: constants that layer 2 refuses to bring together stay operations.
func TestRecordRefused(t *testing.T) {
	wantRecord(t, "out 0^-1, 0^0, -(1 - 1)", fold, "inputs 0; const 0; pow 0 -1; const 1; const 0; out 1; out 2; out 3")
	wantRecord(t, "out 1 / 0 + 2 * 3", fold, "inputs 0; const 1; const 0; div 0 1; const 6; add 2 3; out 4")
	wantRecord(t, "out -(2 - 3) / 2, [1/2]^-3", fold, "inputs 0; const 1/2; const 8; out 0; out 1")
	huge := api.Model{Nodes: []api.Expr{{Kind: api.ExprNumber, Num: power2(40000)}, {Kind: api.ExprPow, N: 2, Kids: []int{0}}, {Kind: api.ExprNumber, Num: power2(1)}, {Kind: api.ExprMul, Kids: []int{1, 2}}}, Outs: []int{3}}
	r, _, e := record.Record(huge, fold)
	want := api.Tape{Ops: []api.Op{{Kind: api.OpConst, C: power2(40000)}, {Kind: api.OpPow, A: 0, N: 2}, {Kind: api.OpConst, C: power2(1)}, {Kind: api.OpMul, A: 1, B: 2}}, Outs: []int{3}}
	if e != api.OK || showTape(r) != showTape(want) {
		t.Errorf("a power that is too big: %s, error %d", short(showTape(r)), e)
	}
	wantNoValue(t, "a power that is too big", huge, nil, 0, api.ErrBig)
}

// sumOf is the text of a model of one input whose output is a sum of n of it.
func sumOf(n int) string { return fmt.Sprintf("in x\nout sum(%s)", repeat("x", n)) }

// P6.2: a tape of MaxNodes nodes, and one more.
func TestMostNodes(t *testing.T) {
	t.Parallel()
	const most = api.MaxNodes
	for _, way := range record.Ways() {
		if r, _, e := record.Record(must(t, sumOf(most)), way); e != api.OK || len(r.Ops) != most {
			t.Errorf("%v: %d nodes, error %d", way, len(r.Ops), e)
		}
		wantNoTape(t, "one more", must(t, sumOf(most+1)), way, 0, api.ErrNodes)
		// A constant that is an output is a node too.
		if r, _, e := record.Record(must(t, sumOf(most-1)+", 7"), way); e != api.OK || len(r.Ops) != most || r.Outs[1] != most-1 {
			t.Errorf("%v, a constant behind it: %d nodes, error %d", way, len(r.Ops), e)
		}
		wantNoTape(t, "a constant more", must(t, sumOf(most)+", 7"), way, 0, api.ErrNodes)
		wantNoTape(t, "a constant more, and another output", must(t, sumOf(most)+", 7, x"), way, 0, api.ErrNodes)
	}
	// With Fold nothing is laid down before it is needed.
	if r, _, e := record.Record(must(t, fmt.Sprintf("out sum(%s)", repeat("1", 4095))), fold); e != api.OK || len(r.Ops) != 1 {
		t.Errorf("ones: %d nodes, error %d", len(r.Ops), e)
	}
	wantNoTape(t, "ones", must(t, fmt.Sprintf("out sum(%s)", repeat("1", 4095))), api.Way{}, 0, api.ErrNodes)
}

// faultyModels are models that may not be, one for each of Check's faults at least.
func faultyModels() map[string]api.Model {
	x := api.Expr{Kind: api.ExprName, Name: "x"}
	one := api.Expr{Kind: api.ExprNumber, Num: num("1")}
	in := []string{"x"}
	return map[string]api.Model{
		"nothing":             {},
		"65 inputs":           {Inputs: make([]string, 65), Nodes: []api.Expr{one}, Outs: []int{0}},
		"65 outputs":          {Nodes: make([]api.Expr, 65), Outs: make([]int, 65)},
		"too many nodes":      {Nodes: make([]api.Expr, 4097), Outs: []int{0}},
		"too many lets":       {Lets: make([]api.Let, 4097), Outs: []int{0}},
		"too many parameters": {Funcs: []api.Func{{Name: "f", Params: make([]string, 65)}}, Outs: []int{0}},
		"an input's name":     {Inputs: []string{"let"}, Nodes: []api.Expr{one}, Outs: []int{0}},
		"an input twice":      {Inputs: []string{"x", "x"}, Nodes: []api.Expr{one}, Outs: []int{0}},
		"no kind":             {Nodes: []api.Expr{one, {Kind: 99}}, Outs: []int{0}},
		"an unused field":     {Nodes: []api.Expr{{Kind: api.ExprNumber, Num: num("1"), N: 1}}, Outs: []int{0}},
		"a later kid":         {Nodes: []api.Expr{one, {Kind: api.ExprNeg, Kids: []int{1}}}, Outs: []int{0}},
		"a kid below 0":       {Nodes: []api.Expr{{Kind: api.ExprNeg, Kids: []int{-1}}}, Outs: []int{0}},
		"a kid twice":         {Nodes: []api.Expr{one, {Kind: api.ExprAdd, Kids: []int{0, 0}}}, Outs: []int{1}},
		"a power":             {Nodes: []api.Expr{one, {Kind: api.ExprPow, N: 1025, Kids: []int{0}}}, Outs: []int{1}},
		"kids of a sign":      {Nodes: []api.Expr{one, one, {Kind: api.ExprNeg, Kids: []int{0, 1}}}, Outs: []int{2}},
		"a number":            {Nodes: []api.Expr{one, {Kind: api.ExprNumber, Num: api.Rat{Num: api.Nat{2}, Den: api.Nat{2}}}}, Outs: []int{0}},
		"no name":             {Nodes: []api.Expr{one, {Kind: api.ExprName, Name: "1"}}, Outs: []int{0}},
		"an output":           {Nodes: []api.Expr{one}, Outs: []int{1}},
		"an output twice":     {Nodes: []api.Expr{one}, Outs: []int{0, 0}},
		"an unused node":      {Nodes: []api.Expr{one, one, one}, Outs: []int{0, 2}},
		"an unknown name":     {Inputs: in, Nodes: []api.Expr{x, {Kind: api.ExprName, Name: "y"}}, Outs: []int{0, 1}},
		"an unknown function": {Nodes: []api.Expr{one, {Kind: api.ExprCall, Name: "f"}}, Outs: []int{0, 1}},
		"a call's kids":       {Inputs: in, Funcs: []api.Func{{Name: "f", Params: []string{"a"}}}, Nodes: []api.Expr{one, x, {Kind: api.ExprCall, Name: "f"}}, Outs: []int{1, 2}},
		"a call of itself":    {Funcs: []api.Func{{Name: "f", Body: 0}}, Nodes: []api.Expr{{Kind: api.ExprCall, Name: "f"}, one}, Outs: []int{1}},
		"a let of itself":     {Lets: []api.Let{{Name: "u", Body: 0}}, Nodes: []api.Expr{{Kind: api.ExprName, Name: "u"}, one}, Outs: []int{1}},
	}
}

// checkFault is the error of a faulty model.
func checkFault(t *testing.T, what string, m api.Model) api.Errno {
	t.Helper()
	_, e := formula.Check(m)
	if e == api.OK {
		t.Fatalf("%s: no fault", what)
	}
	return e
}

// P6.2 to P6.4: a faulty model has Check's error and place, ahead of all else.
func TestModelFaults(t *testing.T) {
	met := map[api.Errno]bool{}
	places := map[bool]bool{}
	for what, m := range faultyModels() {
		at, e := formula.Check(m)
		met[checkFault(t, what, m)] = true
		places[at > 0] = true
		for _, way := range record.Ways() {
			wantNoTape(t, what, m, way, at, e)
		}
		wantNoValue(t, what, m, nil, at, e)
		wantNoValue(t, what, m, wrongNumbers(), at, e)
		z, place, f := record.Flat(m)
		if place != at || f != e || showModel(z) != showModel(api.Model{}) {
			t.Errorf("Flat(%s): %s, place %d, error %d, want place %d, error %d", what, showModel(z), place, f, at, e)
		}
	}
	for _, e := range []api.Errno{api.ErrInputs, api.ErrOutputs, api.ErrModel, api.ErrName, api.ErrTwice, api.ErrRat, api.ErrCount} {
		if !met[e] {
			t.Errorf("error %d was not met", e)
		}
	}
	if len(places) != 2 {
		t.Error("no place but -1 was met, or none above 0")
	}
}
