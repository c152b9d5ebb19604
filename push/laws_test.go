package push_test

import (
	"math/big"
	"slices"
	"testing"

	"slope/api"
	"slope/push"
	"slope/reach"
	"slope/sparse"
	"slope/sweep"
	"slope/tape"
)

// answered are tapes at a point with weights that are answered, one after the other, until there are so many.
func (d *dice) answered(many, most int, f func(x api.Tape, at, w []api.Rat)) {
	for many > 0 {
		x := d.tape(most)
		at, w := d.point(x.Inputs), d.point(len(x.Outs))
		if plainFault(x, at, w, 0).e == api.OK {
			f(x, at, w)
			many--
		}
	}
}

// isLarge tells whether a tape is large with weights.
func isLarge(x api.Tape, at, w []api.Rat) bool {
	_, found, _ := tape.LargeSum(x, at, nil, w)
	return found
}

// state is State's answer as a text.
func state(t *testing.T, x api.Tape, at, w []api.Rat, upto int) string {
	t.Helper()
	adjoints, edges, place, e := push.State(x, at, w, upto)
	if place != 0 || e != api.OK {
		t.Fatalf("State ahead of %d: place %d, error %d: %s", upto, place, e, showTape(x))
	}
	return stateText(adjoints, edges)
}

// dense is Hessian's answer, row by row.
func dense(t *testing.T, x api.Tape, at, w []api.Rat) [][]api.Rat {
	t.Helper()
	m, place, e := push.Hessian(x, at, w)
	if place != 0 || e != api.OK {
		t.Fatalf("Hessian: place %d, error %d: %s", place, e, showTape(x))
	}
	l, e := sparse.Dense(m)
	if e != api.OK {
		t.Fatalf("Hessian: no matrix: %s", showTape(x))
	}
	return l
}

// gradient is Gradient's answer.
func gradient(t *testing.T, x api.Tape, at, w []api.Rat) []api.Rat {
	t.Helper()
	l, place, e := push.Gradient(x, at, w)
	if place != 0 || e != api.OK {
		t.Fatalf("Gradient: place %d, error %d: %s", place, e, showTape(x))
	}
	return l
}

// P14.3: ahead of every node, against polynomials in letters by which the nodes below it are moved.
func TestCutLetters(t *testing.T) {
	t.Parallel()
	d := dice(11)
	edges := 0
	d.answered(900, 10, func(x api.Tape, at, w []api.Rat) {
		p, _, _ := newPlain(x, at, w)
		for upto := range len(x.Ops) + 1 {
			wantState(t, x, at, w, upto, p.cutState(upto))
			_, l, _, _ := push.State(x, at, w, upto)
			edges += len(l)
		}
	})
	if edges < 1000 {
		t.Errorf("%d edges", edges)
	}
}

// P14.3: ahead of every node, against the sweeps, the Hessian, the Gradient and the state of the cut tape.
func TestCutTape(t *testing.T) {
	t.Parallel()
	d := dice(12)
	cuts, large := 0, 0
	d.answered(500, 14, func(x api.Tape, at, w []api.Rat) {
		values, _, _ := sweep.Nodes(x, at)
		alive, _ := tape.Live(x)
		for upto := range len(x.Ops) + 1 {
			c, e := tape.Cut(x, upto)
			if e != api.OK {
				t.Fatalf("Cut: %d", e)
			}
			point := append(slices.Clone(values[:upto]), at...)
			for n := range upto {
				if !alive[n] {
					point[n] = num(pick(&d, "0", "5", "-7/3"))
				}
			}
			if isLarge(c, point, w) {
				large++
				continue
			}
			cuts++
			want := state(t, x, at, w, upto)
			if got := sweptState(t, c, point, w, upto); got != want {
				t.Errorf("cut at %d: swept %s, State %s: %s", upto, short(got), short(want), showTape(x))
			}
			if got := denseState(gradient(t, c, point, w), dense(t, c, point, w), upto); got != want {
				t.Errorf("cut at %d: Hessian %s, State %s: %s", upto, short(got), short(want), showTape(x))
			}
			if got := state(t, c, point, w, upto); got != want {
				t.Errorf("cut at %d: its state %s, State %s: %s", upto, short(got), short(want), showTape(x))
			}
		}
	})
	if cuts < 2000 {
		t.Errorf("%d cuts, %d large", cuts, large)
	}
}

// sweptState is the first and second derivatives by the first inputs of a cut tape, as a state, by sweeps.
func sweptState(t *testing.T, c api.Tape, point, w []api.Rat, upto int) string {
	t.Helper()
	first, _, e := sweep.Reverse(c, point, [][]api.Rat{w})
	second, _, f := sweep.Second(c, point, w, units(c.Inputs))
	if e != api.OK || f != api.OK {
		t.Fatalf("Reverse: %d, Second: %d: %s", e, f, showTape(c))
	}
	return denseState(first[0], second, upto)
}

// denseState is first derivatives and full second ones, by the first inputs, as a state.
func denseState(first []api.Rat, second [][]api.Rat, upto int) string {
	var edges []api.Edge
	for a := range upto {
		for b := a; b < upto; b++ {
			if v := second[a][b]; len(v.Num) > 0 {
				edges = append(edges, api.Edge{A: a, B: b, Val: v})
			}
		}
	}
	return stateText(first[:upto], edges)
}

// P14.3: State hangs on nothing of the nodes below upto but their values: with constants in their places it is the same.
func TestValuesAlone(t *testing.T) {
	t.Parallel()
	d := dice(13)
	held := 0
	d.answered(500, 14, func(x api.Tape, at, w []api.Rat) {
		values, _, _ := sweep.Nodes(x, at)
		for upto := range len(x.Ops) + 1 {
			y := api.Tape{Inputs: x.Inputs, Ops: slices.Clone(x.Ops), Outs: x.Outs}
			for n := range upto {
				y.Ops[n] = api.Op{Kind: api.OpConst, C: values[n]}
			}
			if isLarge(y, at, w) {
				continue
			}
			held++
			if got, want := state(t, y, at, w, upto), state(t, x, at, w, upto); got != want {
				t.Errorf("constants below %d: %s, want %s: %s", upto, short(got), short(want), showTape(x))
			}
		}
	})
	if held < 2000 {
		t.Errorf("%d times", held)
	}
}

// P14.4, P14.6: Hessian is on reach's pattern, symmetric, and all of Second; Gradient is Reverse.
func TestSwept(t *testing.T) {
	t.Parallel()
	d := dice(14)
	zeros, others := 0, 0
	d.answered(2000, 18, func(x api.Tape, at, w []api.Rat) {
		m, place, e := push.Hessian(x, at, w)
		if place != 0 || e != api.OK {
			t.Fatalf("Hessian: place %d, error %d: %s", place, e, showTape(x))
		}
		p, _, _ := reach.Hessian(x)
		if m.P.Rows != p.Rows || m.P.Width != p.Width || !slices.Equal(m.P.Start, p.Start) || !slices.Equal(m.P.Cols, p.Cols) {
			t.Errorf("Hessian's pattern is %v, reach's %v: %s", m.P, p, showTape(x))
		}
		turned, e := sparse.TurnMatrix(m)
		if e != api.OK || !sparse.Same(m, turned) {
			t.Errorf("Hessian is not symmetric: %s: %s", matrixText(m), showTape(x))
		}
		for _, v := range m.Vals {
			if len(v.Num) == 0 {
				zeros++
			} else {
				others++
			}
		}
		second, _, f := sweep.Second(x, at, w, units(x.Inputs))
		first, _, g := sweep.Reverse(x, at, [][]api.Rat{w})
		if f != api.OK || g != api.OK {
			t.Fatalf("Second: %d, Reverse: %d: %s", f, g, showTape(x))
		}
		for j, l := range dense(t, x, at, w) {
			if row(l) != row(second[j]) {
				t.Errorf("Hessian's row %d: %s, Second: %s: %s", j, row(l), row(second[j]), showTape(x))
			}
		}
		wantGradient(t, x, at, w, row(first[0]))
		// F is one output of the tape that adds the outputs up
		blend, _ := tape.Blend(x, w)
		if !isLarge(blend, at, nums("1")) {
			wantGradient(t, blend, at, nums("1"), row(first[0]))
			wantHessian(t, blend, at, nums("1"), matrixText(m))
		}
	})
	if zeros < 200 || others < 500 {
		t.Errorf("%d entries are 0, %d are not", zeros, others)
	}
}

// P14.6: both are linear in the weights.
func TestLinear(t *testing.T) {
	t.Parallel()
	d := dice(15)
	held := 0
	d.answered(700, 14, func(x api.Tape, at, w []api.Rat) {
		v := d.point(len(x.Outs))
		a, b := pick(&d, nums("0 1 -1 2/3 -5")...), pick(&d, nums("1 -1 7/2")...)
		sum := mix(a, w, b, v)
		if isLarge(x, at, v) || isLarge(x, at, sum) {
			return
		}
		held++
		one, other := dense(t, x, at, w), dense(t, x, at, v)
		for j, l := range dense(t, x, at, sum) {
			if want := row(mix(a, one[j], b, other[j])); row(l) != want {
				t.Errorf("Hessian's row %d: %s, want %s: %s", j, row(l), want, showTape(x))
			}
		}
		wantGradient(t, x, at, sum, row(mix(a, gradient(t, x, at, w), b, gradient(t, x, at, v))))
	})
	if held < 600 {
		t.Errorf("%d times", held)
	}
}

// P14.6: without OpMul, OpDiv and OpPow Hessian is 0 throughout, and nothing has an edge.
func TestNothingBent(t *testing.T) {
	t.Parallel()
	d := dice(16)
	for range 300 {
		x := d.tape(20)
		for n, op := range x.Ops {
			switch op.Kind {
			case api.OpMul, api.OpDiv:
				x.Ops[n].Kind = pick(&d, api.OpAdd, api.OpSub)
			case api.OpPow:
				x.Ops[n] = neg(op.A)
			}
		}
		at, w := d.point(x.Inputs), d.point(len(x.Outs))
		if !wantPlain(t, x, at, w) {
			t.Fatalf("refused: %s", showTape(x))
		}
		m, _, _ := push.Hessian(x, at, w)
		if len(m.Vals) > 0 || sparse.Count(m.P) > 0 || m.P.Rows != x.Inputs {
			t.Errorf("Hessian: %s: %s", matrixText(m), showTape(x))
		}
		for upto := range len(x.Ops) + 1 {
			if _, edges, _, _ := push.State(x, at, w, upto); len(edges) > 0 {
				t.Errorf("%d edges ahead of %d: %s", len(edges), upto, showTape(x))
			}
		}
	}
}

// G6 of DOC.md: trimming and merging change neither number nor place; the first and the second derivative of output i with a 1 for it alone make up all others.
func TestForms(t *testing.T) {
	t.Parallel()
	d := dice(17)
	d.answered(400, 14, func(x api.Tape, at, w []api.Rat) {
		trimmed, _, _ := tape.Trim(x)
		merged, _, _ := tape.Merge(x)
		clean, _, _ := tape.Clean(x)
		m, _, _ := push.Hessian(x, at, w)
		for _, y := range []api.Tape{trimmed, merged, clean} {
			if isLarge(y, at, w) || plainFault(y, at, w, 0).e != api.OK {
				continue
			}
			wantHessian(t, y, at, w, matrixText(m))
			wantGradient(t, y, at, w, row(gradient(t, x, at, w)))
		}
		sums := make([]*big.Rat, x.Inputs)
		for j := range sums {
			sums[j] = new(big.Rat)
		}
		for i, one := range units(len(x.Outs)) {
			if isLarge(x, at, one) {
				return
			}
			for j, v := range gradient(t, x, at, one) {
				sums[j].Add(sums[j], new(big.Rat).Mul(bigOf(w[i]), bigOf(v)))
			}
		}
		wantGradient(t, x, at, w, row(ratsOf(sums)))
	})
}
