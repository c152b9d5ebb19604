package engine_test

import (
	"math"
	"slices"
	"testing"

	"slope/api"
	"slope/engine"
)

// P17.1 to P17.6, P17.8: each of tape.Check's faults, with its place, ahead of all others, whatever the plan.
func TestTapeFaults(t *testing.T) {
	t.Parallel()
	good := func() api.Tape {
		return api.Tape{Inputs: 2, Ops: []api.Op{in(0), in(1), constant("2"), two(api.OpDiv, 0, 1), pow(2, 3)}, Outs: []int{3, 4}}
	}
	for _, c := range []struct {
		what  string
		spoil func(x *api.Tape)
		f     fault
	}{
		{"inputs below 0", func(x *api.Tape) { x.Inputs = -1 }, fault{-1, api.ErrInputs}},
		{"the least inputs", func(x *api.Tape) { x.Inputs = math.MinInt }, fault{-1, api.ErrInputs}},
		{"too many inputs", func(x *api.Tape) { x.Inputs = 65 }, fault{-1, api.ErrInputs}},
		{"too many nodes", func(x *api.Tape) { x.Ops = slices.Repeat([]api.Op{in(0)}, 2049) }, fault{-1, api.ErrNodes}},
		{"no outputs", func(x *api.Tape) { x.Outs = nil }, fault{-1, api.ErrOutputs}},
		{"too many outputs", func(x *api.Tape) { x.Outs = make([]int, 65) }, fault{-1, api.ErrOutputs}},
		{"no kind", func(x *api.Tape) { x.Ops[3].Kind = 9 }, fault{3, api.ErrKind}},
		{"kind 0", func(x *api.Tape) { x.Ops[0].Kind = 0 }, fault{0, api.ErrKind}},
		{"unused B", func(x *api.Tape) { x.Ops[4].B = 1 }, fault{4, api.ErrUnused}},
		{"unused C", func(x *api.Tape) { x.Ops[1].C = num("1") }, fault{1, api.ErrUnused}},
		{"no input", func(x *api.Tape) { x.Ops[1].A = 2 }, fault{1, api.ErrIndex}},
		{"no number", func(x *api.Tape) { x.Ops[2].C = api.Rat{Num: api.Nat{2}, Den: api.Nat{2}} }, fault{2, api.ErrRat}},
		{"no earlier node", func(x *api.Tape) { x.Ops[3].B = 3 }, fault{3, api.ErrOperand}},
		{"operand below 0", func(x *api.Tape) { x.Ops[4].A = -1 }, fault{4, api.ErrOperand}},
		{"too great a power", func(x *api.Tape) { x.Ops[4].N = 1025 }, fault{4, api.ErrPower}},
		{"no such output", func(x *api.Tape) { x.Outs[1] = 5 }, fault{6, api.ErrOut}},
		{"output below 0", func(x *api.Tape) { x.Outs[0] = -1 }, fault{5, api.ErrOut}},
		{"two faults", func(x *api.Tape) { x.Outs[0], x.Ops[3].B = -1, 7 }, fault{3, api.ErrOperand}},
	} {
		x := good()
		c.spoil(&x)
		if _, _, place, e := engine.Patterns(x); (fault{place, e}) != c.f {
			t.Errorf("%s: Patterns: place %d, error %d", c.what, place, e)
		}
		for _, plan := range []api.Plan{{}, {Mode: 1, Route: 1, Order: 1, Workers: 1}, {Mode: 9, Route: 9, Order: 9, Workers: 99}, {Mode: 3, Route: 3}} {
			if l, n, e := engine.Colours(x, plan); e != c.f.e || l != nil || n != 0 {
				t.Errorf("%s: Colours: %v, %d, error %d", c.what, l, n, e)
			}
			if l, n, e := engine.HessianColours(x, plan); e != c.f.e || l != nil || n != 0 {
				t.Errorf("%s: HessianColours: %v, %d, error %d", c.what, l, n, e)
			}
			for _, l := range [][]api.Rat{nums("1 2"), nums("1 0"), nil, {{}}, {power2(9000), num("0")}} {
				isAnswer(t, answerText(engine.Jacobian(x, l, plan)), faultText(c.f))
				isAnswer(t, answerText(engine.Hessian(x, l, l, plan)), faultText(c.f))
				wantOutcomes(t, x, l, l)
			}
		}
	}
	if f := wantOutcomes(t, good(), nums("1 2"), nums("1 2")); f != (fault{}) {
		t.Errorf("the tape itself: %v", f)
	}
}

// P17.1, P17.5, P17.6: points of another length, coordinates and weights that may not be, with their number, ahead of the plan's faults.
func TestListFaults(t *testing.T) {
	t.Parallel()
	x := must(t, "inputs 2; in 0; in 1; mul 0 1; div 0 1; out 2; out 3; out 0")
	plans := []api.Plan{{}, {Mode: 2, Route: 2, Order: 2, Workers: 2}, {Mode: -1, Route: -1}, {Mode: 1, Route: 1}}
	want := func(at, w []api.Rat, first, second fault) {
		t.Helper()
		for _, plan := range plans {
			if first.e == api.ErrPoint || first.e == api.ErrRat {
				isAnswer(t, answerText(engine.Jacobian(x, at, plan)), faultText(first))
			}
			isAnswer(t, answerText(engine.Hessian(x, at, w, plan)), faultText(second))
		}
		if place, e := engine.Outcome(x, at); (fault{place, e}) != first {
			t.Errorf("Outcome: place %d, error %d, want %v", place, e, first)
		}
		if place, e := engine.OutcomeWith(x, at, w); (fault{place, e}) != second {
			t.Errorf("OutcomeWith: place %d, error %d, want %v", place, e, second)
		}
	}
	three := nums("1 2 3")
	for _, at := range [][]api.Rat{nil, {}, nums("1"), three, {{}}, {{}, {}, {}}} {
		for _, w := range [][]api.Rat{three, nil, nums("1"), {{}, {}, {}}} {
			want(at, w, fault{0, api.ErrPoint}, fault{0, api.ErrPoint})
		}
	}
	for _, r := range wrongNumbers() {
		for place, at := range [][]api.Rat{{r, num("1")}, {num("1"), r}} {
			for _, w := range [][]api.Rat{three, nil, {r, r, r}} {
				want(at, w, fault{place, api.ErrRat}, fault{place, api.ErrRat})
			}
		}
		for place := range 3 {
			w := slices.Clone(three)
			w[place] = r
			want(nums("1 2"), w, fault{}, fault{place, api.ErrRat})
			want(nums("1 0"), w, fault{3, api.ErrPole}, fault{place, api.ErrRat})
		}
		want([]api.Rat{power2(9000), num("0")}, []api.Rat{num("1"), r, r}, fault{0, api.ErrLarge}, fault{1, api.ErrRat})
	}
	for _, w := range [][]api.Rat{nil, {}, nums("1 2"), nums("1 2 3 4"), {{}, {}}} {
		want(nums("1 2"), w, fault{}, fault{0, api.ErrWeights})
		want(nums("1 0"), w, fault{3, api.ErrPole}, fault{0, api.ErrWeights})
	}
}

// P17.4, P17.5, P17.6: the plan's faults in their order, ahead of ErrLarge and ErrPole, and just where they are used.
func TestPlanFaults(t *testing.T) {
	t.Parallel()
	x := page(t)
	kinds := []int{math.MinInt, -1, 0, 1, 2, 3, 4, 5, 6, math.MaxInt}
	scripts := [][]int{nil, {0}, {0, 1}, {1, 0}, {1, 1}, {0, 1, 2}, {-1, 0}, {math.MaxInt, math.MinInt}}
	met := map[api.Errno]int{}
	for _, kind := range kinds {
		for _, o := range kinds {
			for _, workers := range []int{math.MinInt, -1, 0, 1, 2, 16, 17, math.MaxInt} {
				for _, script := range scripts {
					plan := api.Plan{Mode: api.Mode(kind), Route: api.Route(kind), Order: api.OrderKind(o), Script: script, Workers: workers}
					for _, at := range [][]api.Rat{nums("3 1/2"), nums("3 0"), {power2(9000), num("0")}} {
						met[wantJacobian(t, x, at, plan)]++
						met[wantHessian(t, x, at, nums("1 2"), plan)]++
					}
					wantColours(t, x, plan)
				}
			}
		}
	}
	for _, e := range []api.Errno{api.OK, api.ErrMode, api.ErrRoute, api.ErrOrderKind, api.ErrWorkers, api.ErrOrder, api.ErrLarge, api.ErrPole} {
		if met[e] < 10 {
			t.Errorf("error %d was met %d times", e, met[e])
		}
	}
}

// P17.4: a script is an order of what is coloured: of the columns, of the rows, of the Hessian's vertices.
func TestScripts(t *testing.T) {
	t.Parallel()
	x := must(t, "inputs 3; in 0; in 1; in 2; mul 0 1; mul 1 2; out 3; out 4")
	at, w := nums("1 2 3"), nums("1 1")
	for _, c := range []struct {
		script     []int
		two, three bool
	}{{nil, false, false}, {[]int{1, 0}, true, false}, {[]int{2, 0, 1}, false, true}, {[]int{0, 1, 3}, false, false}, {[]int{0, 2, 2}, false, false}, {[]int{3, 2, 1, 0}, false, false}} {
		is := func(ok bool) api.Errno {
			if ok {
				return api.OK
			}
			return api.ErrOrder
		}
		plan := api.Plan{Order: api.OrderScript, Script: c.script, Workers: 2}
		for m, want := range map[api.Mode]api.Errno{api.ModeColumns: is(c.three), api.ModeRows: is(c.two), api.ModeDense: api.OK} {
			plan.Mode = m
			if _, _, place, e := engine.Jacobian(x, at, plan); place != 0 || e != want {
				t.Errorf("Jacobian: script %v, mode %d: place %d, error %d", c.script, m, place, e)
			}
			if _, _, e := engine.Colours(x, plan); e != want {
				t.Errorf("Colours: script %v, mode %d: error %d", c.script, m, e)
			}
		}
		for r, want := range map[api.Route]api.Errno{api.RouteStar: is(c.three), api.RouteAcyclic: is(c.three), api.RoutePush: api.OK, api.RouteDense: api.OK} {
			plan.Route = r
			if _, _, place, e := engine.Hessian(x, at, w, plan); place != 0 || e != want {
				t.Errorf("Hessian: script %v, route %d: place %d, error %d", c.script, r, place, e)
			}
			if _, _, e := engine.HessianColours(x, plan); e != want {
				t.Errorf("HessianColours: script %v, route %d: error %d", c.script, r, e)
			}
		}
	}
	// the colours are those of the script's order: the middle column first has the first colour alone
	if l, n, e := engine.Colours(x, api.Plan{Mode: api.ModeColumns, Order: api.OrderScript, Script: []int{1, 2, 0}}); !slices.Equal(l, []int{1, 0, 1}) || n != 2 || e != api.OK {
		t.Errorf("Colours: %v, %d, error %d", l, n, e)
	}
	if l, n, e := engine.Colours(x, api.Plan{Mode: api.ModeColumns, Order: api.OrderScript, Script: []int{2, 0, 1}}); !slices.Equal(l, []int{0, 1, 0}) || n != 2 || e != api.OK {
		t.Errorf("Colours: %v, %d, error %d", l, n, e)
	}
}

// raw is a tape of odd numbers.
func (d *dice) raw(odd []int, numbers []api.Rat) api.Tape {
	x := api.Tape{Inputs: pick(d, odd...)}
	for range d.next(5) {
		x.Ops = append(x.Ops, api.Op{Kind: api.Kind(pick(d, odd...)), A: pick(d, odd...), B: pick(d, odd...), N: pick(d, odd...), C: pick(d, numbers...)})
	}
	for range d.next(3) {
		x.Outs = append(x.Outs, pick(d, odd...))
	}
	return x
}

// plan is one of odd numbers, or, mostly, one that may be but for one of them.
func (d *dice) plan(odd []int, x api.Tape) api.Plan {
	plan := api.Plan{Mode: api.Mode(1 + d.next(3)), Route: api.Route(1 + d.next(4)), Order: api.OrderKind(1 + d.next(5)), Script: d.shuffle(pick(d, max(0, min(x.Inputs, 9)), len(x.Outs))), Workers: 1 + d.next(16)}
	for range d.next(3) {
		switch d.next(5) {
		case 0:
			plan.Mode = api.Mode(pick(d, odd...))
		case 1:
			plan.Route = api.Route(pick(d, odd...))
		case 2:
			plan.Order = api.OrderKind(pick(d, odd...))
		case 3:
			plan.Workers = pick(d, odd...)
		case 4:
			plan.Script = some(d.next(5), func(int) int { return pick(d, odd...) })
		}
	}
	return plan
}

// DOC.md's P1 and P4: no call panics, whatever it is given; faults of several kinds at once are told in the chapter's order.
func TestNoPanic(t *testing.T) {
	t.Parallel()
	odd := []int{math.MinInt, math.MinInt + 1, -1025, -1, 0, 0, 0, 1, 1, 2, 2, 3, 9, 17, 64, 65, 2048, 1 << 40, math.MaxInt}
	numbers := append(wrongNumbers(), nums("0 1 -2/3 5 0 1 -2/3 5 7/2 -1 3 2/9 4 11 -8 1/7 6 2 2 3")...)
	d := dice(18)
	list := func(n int) []api.Rat {
		return some(pick(&d, n, n, n, n, d.next(4)), func(int) api.Rat { return pick(&d, numbers...) })
	}
	met := map[api.Errno]int{}
	for i := range 6000 {
		x := d.tape(6)
		if i%3 == 0 {
			x = d.raw(odd, numbers)
		}
		at, w := list(min(max(x.Inputs, 0), 5)), list(len(x.Outs))
		plan := d.plan(odd, x)
		met[wantOutcomes(t, x, at, w).e]++
		met[wantJacobian(t, x, at, plan)]++
		met[wantHessian(t, x, at, w, plan)]++
		wantColours(t, x, plan)
		wantPatterns(t, x)
		engine.Compose(x, d.raw(odd, numbers))
		engine.Compose(d.raw(odd, numbers), x)
		if l, e := engine.Batch(x, [][]api.Rat{at, w, nil}, plan); e == api.OK && batchText(l) != oneByOne(x, [][]api.Rat{at, w, nil}, plan) {
			t.Errorf("Batch: %s: %s, plan %v", short(batchText(l)), showTape(x), plan)
		}
	}
	for _, e := range []api.Errno{api.OK, api.ErrPole, api.ErrRat, api.ErrPoint, api.ErrWeights, api.ErrKind, api.ErrUnused, api.ErrInputs, api.ErrOutputs, api.ErrMode, api.ErrRoute, api.ErrOrderKind, api.ErrWorkers, api.ErrOrder} {
		if met[e] < 5 {
			t.Errorf("error %d was met %d times", e, met[e])
		}
	}
}
