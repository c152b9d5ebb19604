package engine_test

import (
	"strings"
	"testing"

	"slope/api"
	"slope/engine"
)

// page is the tape of DOC.md's example: u = x * y; u^2 + x, u / y.
func page(t *testing.T) api.Tape {
	t.Helper()
	return must(t, "inputs 2; in 0; in 1; mul 0 1; pow 2 2; add 3 0; div 2 1; out 4; out 5")
}

// squares are x0*x0, x1*x1, .. of so many inputs.
func squares(n int) api.Tape {
	x := api.Tape{Inputs: n}
	for i := range n {
		x.Ops = append(x.Ops, in(i))
	}
	for i := range n {
		x.Ops = append(x.Ops, two(api.OpMul, i, i))
		x.Outs = append(x.Outs, n+i)
	}
	return x
}

// isAnswer fails if an answer isn't this text.
func isAnswer(t *testing.T, got, want string) {
	t.Helper()
	if got != want {
		t.Errorf("%s, want %s", short(got), short(want))
	}
}

// Example 1, and those of the whole of DOC.md.
func TestPage(t *testing.T) {
	x, at := page(t), nums("3 1/2")
	plan := api.Plan{Mode: api.ModeColumns, Order: api.OrderNatural, Workers: 1}
	matrix := "2 by 2 | 0,0: 5/2 0,1: 9 1,0: 1 1,1: 0"
	for _, m := range modes() {
		plan.Mode = m
		isAnswer(t, answerText(engine.Jacobian(x, at, plan)), "2 sweeps, place 0, error 0, "+matrix)
		if l, n, e := engine.Colours(x, plan); n != 2 || e != api.OK || len(l) != 2 || l[0] != 0 || l[1] != 1 {
			t.Errorf("mode %d: colours %v, %d, error %d", m, l, n, e)
		}
	}
	l, place, e := engine.Values(x, at)
	if row(l) != "21/4 3" || place != 0 || e != api.OK {
		t.Errorf("Values: %s, %d, %d", row(l), place, e)
	}
	p, h, place, e := engine.Patterns(x)
	if len(p.Cols) != 4 || len(h.Cols) != 4 || place != 0 || e != api.OK {
		t.Errorf("Patterns: %v, %v, %d, %d", p, h, place, e)
	}
	for route, sweeps := range map[api.Route]string{api.RouteStar: "2", api.RouteAcyclic: "2", api.RoutePush: "1", api.RouteDense: "2"} {
		plan := api.Plan{Route: route, Order: api.OrderNatural, Workers: 1}
		isAnswer(t, answerText(engine.Hessian(x, at, nums("1 0"), plan)), sweeps+" sweeps, place 0, error 0, 2 by 2 | 0,0: 1/2 0,1: 6 1,0: 6 1,1: 18")
		isAnswer(t, answerText(engine.Hessian(x, at, nums("0 1"), plan)), sweeps+" sweeps, place 0, error 0, 2 by 2 | 0,0: 0 0,1: 0 1,0: 0 1,1: 0")
	}
	// a pole, and without the output that hangs on it none
	if place, e := engine.Outcome(x, nums("3 0")); place != 5 || e != api.ErrPole {
		t.Errorf("Outcome: %d, %d", place, e)
	}
	x.Outs = []int{4}
	if l, place, e := engine.Values(x, nums("3 0")); row(l) != "3" || place != 0 || e != api.OK {
		t.Errorf("Values: %s, %d, %d", row(l), place, e)
	}
}

// Example 5 of the whole, of DOC.md: 3, squared fourteen times; the weights are reckoned here by hand.
func TestSquaredOften(t *testing.T) {
	x := api.Tape{Inputs: 1, Ops: []api.Op{in(0)}, Outs: []int{14}}
	for i := range 14 {
		x.Ops = append(x.Ops, two(api.OpMul, i, i))
	}
	large, num, den := 0, 5, 2
	for n := 1; large == 0; n++ {
		num, den = max(2*num, 2*den)+1, 2*den
		if num > api.MaxBits {
			large = n
		}
	}
	if place, e := engine.Outcome(x, nums("3")); place != large || e != api.ErrLarge {
		t.Errorf("Outcome: %d, %d; want %d", place, e, large)
	}
	for _, m := range modes() {
		isAnswer(t, answerText(engine.Jacobian(x, nums("3"), api.Plan{Mode: m, Order: api.OrderNatural, Workers: 2})), faultText(fault{large, api.ErrLarge}))
	}
}

// Example 2.
func TestDiagonal(t *testing.T) {
	x, at := squares(10), nums("1 2 3 4 5 6 7 8 9 10")
	var entries []string
	for i, s := range strings.Fields("2 4 6 8 10 12 14 16 18 20") {
		n := string(rune('0' + i))
		entries = append(entries, n+","+n+": "+s)
	}
	matrix := "10 by 10 | " + strings.Join(entries, " ")
	for m, sweeps := range map[api.Mode]string{api.ModeColumns: "1", api.ModeRows: "1", api.ModeDense: "10"} {
		for _, workers := range []int{1, 2, 10, 16} {
			isAnswer(t, answerText(engine.Jacobian(x, at, api.Plan{Mode: m, Order: api.OrderNatural, Workers: workers})), sweeps+" sweeps, place 0, error 0, "+matrix)
		}
	}
}

// Example 3.
func TestPlanExamples(t *testing.T) {
	x, at := page(t), nums("3 1/2")
	for _, c := range []struct {
		plan api.Plan
		e    api.Errno
	}{
		{api.Plan{}, api.ErrMode},
		{api.Plan{Mode: api.ModeColumns, Order: api.OrderNatural}, api.ErrWorkers},
	} {
		isAnswer(t, answerText(engine.Jacobian(x, at, c.plan)), faultText(fault{0, c.e}))
		isAnswer(t, answerText(engine.Jacobian(api.Tape{Inputs: -1}, at, c.plan)), faultText(fault{-1, api.ErrInputs}))
	}
}

// Example 4.
func TestComposeExample(t *testing.T) {
	outer, inner := must(t, "inputs 1; in 0; pow 0 2; out 1"), must(t, "inputs 1; in 0; const 1; add 0 1; out 2")
	x, place, e := engine.Compose(outer, inner)
	if want := "inputs 1; in 0; const 1; add 0 1; pow 2 1; pow 3 2; out 4; "; place != 0 || e != api.OK || showTape(x) != want {
		t.Errorf("Compose: %s, place %d, error %d", showTape(x), place, e)
	}
	isAnswer(t, answerText(engine.Jacobian(x, nums("3"), api.Plan{Mode: api.ModeDense, Workers: 1})), "1 sweeps, place 0, error 0, 1 by 1 | 0,0: 8")
}
