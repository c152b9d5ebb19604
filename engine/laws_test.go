package engine_test

import (
	"math/big"
	"slices"
	"testing"

	"slope/api"
	"slope/colour"
	"slope/engine"
	"slope/order"
	"slope/push"
	"slope/reach"
	"slope/series"
	"slope/sparse"
	"slope/sweep"
	"slope/tape"
)

// answered are tapes at a point with weights that are answered, with these weights and with all weights 1, one after the other, until there are so many.
func (d *dice) answered(many, most int, f func(x api.Tape, at, w []api.Rat)) {
	for many > 0 {
		x := d.tape(most)
		at, w := d.point(x.Inputs), d.point(len(x.Outs))
		_, e := engine.Outcome(x, at)
		_, g := engine.OutcomeWith(x, at, w)
		if e == api.OK && g == api.OK {
			f(x, at, w)
			many--
		}
	}
}

// sparseTape is one of many inputs and outputs, each output of few inputs: by a list of pairs that are multiplied, divided or added.
func (d *dice) sparseTape(inputs, outputs, pairs int) api.Tape {
	x := api.Tape{Inputs: inputs}
	for j := range inputs {
		x.Ops = append(x.Ops, in(j))
	}
	shape := d.next(5)
	for i := range outputs {
		for k := range 1 + d.next(pairs) {
			a, b := d.pair(shape, i, inputs)
			x.Ops = append(x.Ops, pick(d, two(api.OpMul, a, b), two(api.OpMul, a, b), two(api.OpDiv, a, b), two(api.OpAdd, a, b), two(api.OpSub, a, b), pow(a, 2)))
			if k > 0 {
				last := len(x.Ops) - 1
				x.Ops = append(x.Ops, two(pick(d, api.OpAdd, api.OpAdd, api.OpSub, api.OpMul), last, last-1))
			}
		}
		x.Outs = append(x.Outs, len(x.Ops)-1)
	}
	return x
}

// pair is two inputs that stand together in output i: neighbours, a ring's neighbours, all with the first one, any, or one with itself.
func (d *dice) pair(shape, i, inputs int) (int, int) {
	a := (i + d.next(2)) % inputs
	switch shape {
	case 0:
		return a, min(a+1, inputs-1)
	case 1:
		return a, (a + 1) % inputs
	case 2:
		return 0, a
	case 3:
		return d.next(inputs), d.next(inputs)
	}
	return a, a
}

// away are so many numbers that are not 0.
func (d *dice) away(n int) []api.Rat {
	return some(n, func(int) api.Rat { return num(pick(d, "1", "-1", "2", "1/2", "-7/3", "5/4", "3", "11/9")) })
}

// wantSwept fails if a matrix has not all numbers of full rows, on this pattern.
func wantSwept(t *testing.T, what string, m api.Matrix, p api.Pattern, rows [][]api.Rat) {
	t.Helper()
	full, e := sparse.Dense(m)
	if e != api.OK || !samePattern(m.P, p) {
		t.Errorf("%s: pattern %v, want %v, error %d", what, m.P, p, e)
		return
	}
	if !slices.EqualFunc(full, rows, func(a, b []api.Rat) bool { return row(a) == row(b) }) {
		t.Errorf("%s: unlike the sweeps", what)
	}
}

// wantSweptTape fails if Jacobian or Hessian, with every plan, is anything but what single sweeps of layer 7 tell, and layer 14, or takes other than as many sweeps as there are colours.
func (d *dice) wantSweptTape(t *testing.T, x api.Tape, at, w []api.Rat) {
	t.Helper()
	first, second, _, _ := engine.Patterns(x)
	rows, _, e := sweep.Reverse(x, at, units(len(x.Outs)))
	turns, _, f := sweep.Second(x, at, w, units(x.Inputs))
	pushed, _, g := push.Hessian(x, at, w)
	if e != api.OK || f != api.OK || g != api.OK {
		t.Fatalf("errors %d, %d, %d: %s", e, f, g, showTape(x))
	}
	for _, plan := range d.jacobianPlans(x) {
		m, sweeps, place, e := engine.Jacobian(x, at, plan)
		l, n, f := engine.Colours(x, plan)
		if sweeps != n || place != 0 || e != api.OK || f != api.OK || len(l) != coloured(x, plan.Mode) {
			t.Errorf("Jacobian: %d sweeps, place %d, error %d; %d colours, error %d", sweeps, place, e, n, f)
		}
		wantSwept(t, "Jacobian", m, first, rows)
		wantKind(t, map[api.Mode]api.ColourKind{api.ModeColumns: api.ColourColumns, api.ModeRows: api.ColourRows, api.ModeDense: api.ColourColumns}[plan.Mode], first, l, n, plan)
	}
	for _, plan := range d.hessianPlans(x) {
		m, sweeps, place, e := engine.Hessian(x, at, w, plan)
		l, n, f := engine.HessianColours(x, plan)
		if plan.Route == api.RoutePush {
			if n != 0 || len(l) != 0 {
				t.Errorf("edge pushing: %v, %d colours", l, n)
			}
			n = 1
		} else {
			graph, _ := sparse.Graph(second)
			wantKind(t, map[api.Route]api.ColourKind{api.RouteStar: api.ColourStar, api.RouteAcyclic: api.ColourAcyclic, api.RouteDense: api.ColourStar}[plan.Route], graph, l, n, plan)
		}
		if sweeps != n || place != 0 || e != api.OK || f != api.OK {
			t.Errorf("Hessian: %d sweeps, place %d, error %d; %d colours, error %d", sweeps, place, e, n, f)
		}
		wantSwept(t, "Hessian", m, second, turns)
		if !sparse.Same(m, pushed) {
			t.Errorf("Hessian is not edge pushing's: %s", showTape(x))
		}
	}
}

// wantKind fails if colours are none of a kind (G4), or more than greedy's bound for the plan's order, or their number is another.
func wantKind(t *testing.T, kind api.ColourKind, p api.Pattern, l []int, n int, plan api.Plan) {
	t.Helper()
	if e := colour.Check(kind, p, l); e != api.OK || n != slices.Max(append([]int{-1}, l...))+1 {
		t.Errorf("colours %v, %d: error %d of kind %d", l, n, e, kind)
	}
	if plan.Mode == api.ModeDense || plan.Route == api.RouteDense {
		return
	}
	g := p
	switch kind {
	case api.ColourColumns:
		g, _ = colour.Columns(p)
	case api.ColourRows:
		g, _ = colour.Rows(p)
	}
	list, _ := order.Order(plan.Order, g, plan.Script)
	if most, e := colour.Bound(kind, p, list); e == api.OK && n > most {
		t.Errorf("%d colours of kind %d, at most %d", n, kind, most)
	}
}

// P17.5, P17.6, P17.7, G1, G2, G4: tapes at random against single sweeps and edge pushing.
func TestSwept(t *testing.T) {
	t.Parallel()
	d := dice(4)
	d.answered(250, 24, func(x api.Tape, at, w []api.Rat) { d.wantSweptTape(t, x, at, w) })
}

// P17.5, P17.6, P17.7: the same of tapes of up to 64 inputs and outputs, which few colours are enough for.
func TestSweptSparse(t *testing.T) {
	t.Parallel()
	d := dice(5)
	fewer := 0
	for i := range 40 {
		x := d.sparseTape(2+d.next(30), 1+d.next(30), 1+d.next(3))
		if i%10 == 0 {
			x = d.sparseTape(64, 64, 2)
		}
		at, w := d.away(x.Inputs), d.away(len(x.Outs))
		if _, e := engine.OutcomeWith(x, at, w); e != api.OK {
			continue
		}
		if _, e := engine.Outcome(x, at); e != api.OK {
			continue
		}
		d.wantSweptTape(t, x, at, w)
		if _, n, _ := engine.Colours(x, api.Plan{Mode: api.ModeColumns, Order: api.OrderSmallest}); n < x.Inputs {
			fewer++
		}
	}
	if fewer < 15 {
		t.Errorf("%d tapes had fewer colours than inputs", fewer)
	}
}

// G1, G2: the numbers are coefficients of layer 8: the first derivatives coefficient 1 along an input; the second ones by way of coefficient 2 along one input, or two at once.
func TestSeries(t *testing.T) {
	t.Parallel()
	d := dice(6)
	held := 0
	d.answered(200, 14, func(x api.Tape, at, w []api.Rat) {
		m, _, _, _ := engine.Jacobian(x, at, pick(&d, d.jacobianPlans(x)...))
		h, _, _, _ := engine.Hessian(x, at, w, pick(&d, d.hessianPlans(x)...))
		first, _ := sparse.Dense(m)
		second, _ := sparse.Dense(h)
		for j := range x.Inputs {
			for k := j; k < x.Inputs; k++ {
				along := slices.Repeat(nums("0"), x.Inputs)
				along[j], along[k] = num("1"), num("1")
				l, _, e := series.Expand(x, at, along, 2)
				if e == api.ErrLarge {
					continue
				}
				held++
				want, got := new(big.Rat), new(big.Rat)
				for i := range l {
					addTo(want, product(big.NewRat(2, 1), bigOf(w[i]), bigOf(l[i][2])))
					if j == k && show(l[i][1]) != show(first[i][j]) {
						t.Errorf("Jacobian (%d, %d): %s, coefficient 1 is %s: %s", i, j, show(first[i][j]), show(l[i][1]), showTape(x))
					}
				}
				addTo(got, bigOf(second[j][j]))
				if j != k {
					addTo(got, bigOf(second[k][k]), bigOf(second[j][k]), bigOf(second[k][j]))
				}
				if got.Cmp(want) != 0 {
					t.Errorf("Hessian along %d and %d: %s, coefficients %s: %s", j, k, got, want, showTape(x))
				}
			}
		}
	})
	if held < 500 {
		t.Errorf("%d times", held)
	}
}

// G6: trimming and merging change no number and no place of a matrix; an error's node goes through the lists.
func TestForms(t *testing.T) {
	t.Parallel()
	d := dice(7)
	met := map[api.Errno]int{}
	for range 300 {
		x := d.tape(14)
		at, w := d.point(x.Inputs), d.point(len(x.Outs))
		trimmed, to, _ := tape.Trim(x)
		clean, numbers, _ := tape.Clean(x)
		for _, c := range []struct {
			y  api.Tape
			to []int
		}{{trimmed, to}, {clean, numbers}} {
			plan := pick(&d, d.jacobianPlans(x)...)
			a, _, place, e := engine.Jacobian(x, at, plan)
			b, _, other, f := engine.Jacobian(c.y, at, plan)
			wantMoved(t, x, fault{place, e}, fault{other, f}, c.to, e == api.OK && !sparse.Same(a, b))
			met[e]++
			plan = pick(&d, d.hessianPlans(x)...)
			a, _, place, e = engine.Hessian(x, at, w, plan)
			b, _, other, f = engine.Hessian(c.y, at, w, plan)
			wantMoved(t, x, fault{place, e}, fault{other, f}, c.to, e == api.OK && !sparse.Same(a, b))
			met[e]++
		}
	}
	if met[api.OK] < 300 || met[api.ErrPole] < 30 {
		t.Errorf("met %v", met)
	}
}

// wantMoved fails if two answers are unlike, but for the node's number.
func wantMoved(t *testing.T, x api.Tape, a, b fault, to []int, unlike bool) {
	t.Helper()
	if a.e == api.ErrPole || a.e == api.ErrLarge && a.place < len(to) {
		a.place = to[a.place]
	} else if a.e == api.ErrLarge {
		a.place = b.place
	}
	if a != b || unlike {
		t.Errorf("%v and %v, unlike: %v: %s", a, b, unlike, showTape(x))
	}
}

// P17.3: patterns are reach's, of tapes that may be and of others.
func TestPatterns(t *testing.T) {
	t.Parallel()
	d := dice(8)
	for range 300 {
		x := d.tape(20)
		wantPatterns(t, x)
		p, h, _, _ := engine.Patterns(x)
		q, _, _ := reach.Jacobian(x)
		if !samePattern(p, q) || h.Rows != x.Inputs || h.Width != x.Inputs || p.Rows != len(x.Outs) {
			t.Errorf("Patterns: %v, %v: %s", p, h, showTape(x))
		}
		x.Outs = append(x.Outs, len(x.Ops))
		wantPatterns(t, x)
	}
}
