package engine_test

import (
	"testing"

	"slope/api"
	"slope/engine"
	"slope/reach"
)

// wantEveryPlan fails if any call on a tape, a point and weights answers anything but the plain one, with every mode, route and order; the outcome.
func (d *dice) wantEveryPlan(t *testing.T, x api.Tape, at, w []api.Rat) fault {
	t.Helper()
	for _, plan := range d.jacobianPlans(x) {
		wantJacobian(t, x, at, plan)
		wantColours(t, x, plan)
	}
	for _, plan := range d.hessianPlans(x) {
		wantHessian(t, x, at, w, plan)
		wantColours(t, x, plan)
	}
	wantPatterns(t, x)
	return wantOutcomes(t, x, at, w)
}

// wantPatterns fails if Patterns are not those of reach.
func wantPatterns(t *testing.T, x api.Tape) {
	t.Helper()
	first, place, e := reach.Jacobian(x)
	second, _, _ := reach.Hessian(x)
	p, q, at, f := engine.Patterns(x)
	if !samePattern(p, first) || !samePattern(q, second) || at != place || f != e {
		t.Errorf("Patterns: %v, %v, place %d, error %d; want %v, %v, %d, %d: %s", p, q, at, f, first, second, place, e, showTape(x))
	}
}

// P17.1 to P17.7: the edges that the document names, one by one, with every plan.
func TestEdges(t *testing.T) {
	t.Parallel()
	d := dice(1)
	for what, text := range map[string]string{
		"no inputs":                         "inputs 0; const 3; pow 0 -2; mul 0 1; out 2; out 1",
		"no inputs, one constant":           "inputs 0; const 0; out 0",
		"inputs that no node is":            "inputs 3; const 2/3; out 0; out 0",
		"outputs that are inputs":           "inputs 2; in 1; in 0; out 0; out 1",
		"outputs that are constants":        "inputs 2; in 0; const 5; in 1; mul 0 2; out 1; out 3; out 1",
		"one output twice":                  "inputs 2; in 0; in 1; mul 0 1; out 2; out 2",
		"one output in all places":          "inputs 1; in 0; pow 0 3; out 1; out 1; out 1; out 1; out 1",
		"an input at two nodes":             "inputs 1; in 0; in 0; mul 0 1; out 2; out 1",
		"an input at three nodes":           "inputs 2; in 1; in 0; in 1; mul 0 1; mul 3 2; in 1; add 4 5; out 6",
		"nodes that are not live":           "inputs 2; in 0; in 1; mul 0 1; const 0; div 1 3; pow 3 -1; add 2 0; out 6",
		"x - x":                             "inputs 1; in 0; sub 0 0; out 1",
		"x - x, squared":                    "inputs 2; in 0; in 1; sub 0 0; pow 2 2; mul 3 1; out 4; out 2",
		"x / x":                             "inputs 2; in 0; in 1; div 0 0; mul 2 1; out 3",
		"power 0":                           "inputs 2; in 0; in 1; pow 0 0; mul 2 1; out 3; out 2",
		"power 1":                           "inputs 1; in 0; pow 0 1; pow 1 1; out 2",
		"powers below 0":                    "inputs 2; in 0; in 1; pow 0 -1; pow 1 -3; mul 2 3; out 4",
		"a column without any place":        "inputs 4; in 0; in 2; mul 0 1; out 2; out 0",
		"a row without any place":           "inputs 2; in 0; in 1; const 7; mul 0 1; neg 2; out 3; out 4; out 2",
		"columns and rows without places":   "inputs 5; in 3; const 2; mul 0 0; neg 1; out 3; out 2; out 1; out 0",
		"a diagonal alone in the Hessian":   "inputs 3; in 0; in 1; in 2; pow 0 2; pow 1 3; pow 2 -1; add 3 4; add 6 5; out 7",
		"no place in the Hessian":           "inputs 3; in 0; in 1; in 2; add 0 1; sub 3 2; neg 4; out 5; out 3",
		"products with 0":                   "inputs 2; in 0; in 1; const 0; mul 0 2; mul 3 1; mul 0 1; out 4; out 5",
		"a square of a sum":                 "inputs 4; in 0; in 1; in 2; in 3; add 0 1; add 4 2; add 5 3; pow 6 2; out 7",
		"a path of products":                "inputs 4; in 0; in 1; in 2; in 3; mul 0 1; mul 1 2; mul 2 3; add 4 5; add 7 6; out 8; out 4; out 5; out 6",
		"a circle of products":              "inputs 4; in 0; in 1; in 2; in 3; mul 0 1; mul 1 2; mul 2 3; mul 3 0; add 4 5; add 8 6; add 9 7; out 10; out 4; out 6",
		"an arrow":                          "inputs 5; in 0; in 1; in 2; in 3; in 4; mul 0 1; mul 0 2; mul 0 3; mul 0 4; add 5 6; add 7 8; add 9 10; pow 11 2; out 11; out 5; out 8",
		"an arrow that is no circle's part": "inputs 4; in 3; in 0; in 1; in 2; div 1 0; div 2 0; div 3 0; out 4; out 5; out 6",
	} {
		x := must(t, text)
		met := map[api.Errno]int{}
		for range 8 {
			met[d.wantEveryPlan(t, x, d.point(x.Inputs), d.point(len(x.Outs))).e]++
		}
		if met[api.OK] == 0 {
			t.Errorf("%s: never answered", what)
		}
	}
}

// P17.4 to P17.7: every number of workers, with every mode, route and order, changes nothing, not the sweeps either.
func TestEveryWorkers(t *testing.T) {
	t.Parallel()
	d := dice(2)
	for range 15 {
		x := d.tape(14)
		at, w := d.point(x.Inputs), d.point(len(x.Outs))
		for workers := 1; workers <= api.MaxWorkers; workers++ {
			for _, plan := range d.jacobianPlans(x) {
				plan.Workers = workers
				wantJacobian(t, x, at, plan)
			}
			for _, plan := range d.hessianPlans(x) {
				plan.Workers = workers
				wantHessian(t, x, at, w, plan)
			}
		}
	}
}

// P17.1 to P17.7: tapes at random, at points at random, with every mode, route and order.
func TestPlain(t *testing.T) {
	t.Parallel()
	d := dice(3)
	met := map[api.Errno]int{}
	for range 300 {
		x := d.tape(16)
		met[d.wantEveryPlan(t, x, d.point(x.Inputs), d.point(len(x.Outs))).e]++
	}
	if met[api.OK] < 150 || met[api.ErrPole] < 15 {
		t.Errorf("met %v", met)
	}
}
