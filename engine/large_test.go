package engine_test

import (
	"math/big"
	"testing"

	"slope/api"
	"slope/engine"
	"slope/sweep"
	"slope/tape"
)

// weightOf is the greatest weight of a live node or of the sum.
func weightOf(x api.Tape, at, w []api.Rat) int {
	blend, _ := tape.Blend(x, w)
	trimmed, _, _ := tape.Trim(blend)
	l, _ := tape.Weigh(trimmed, at, nil)
	most := 0
	for _, a := range l {
		most = max(most, a.Num, a.Den)
	}
	return most
}

// bits is a number at random of so many bits above and below.
func (d *dice) bits(num, den int) api.Rat {
	draw := func(bits int) *big.Int {
		z := big.NewInt(1)
		for z.BitLen() < bits {
			z.Lsh(z, 1).Or(z, big.NewInt(int64(d.next(2))))
		}
		return z.SetBit(z, 0, 1)
	}
	r := new(big.Rat).SetFrac(draw(num), draw(den))
	if d.next(2) == 0 {
		r.Neg(r)
	}
	return ratOf(r)
}

// wantFault fails if any call that works at a point, with any plan, answers anything but this fault of Jacobians and that of the Hessian with the weights.
func (d *dice) wantFault(t *testing.T, x api.Tape, at, w []api.Rat, first, second fault) {
	t.Helper()
	if place, e := engine.Outcome(x, at); (fault{place, e}) != first {
		t.Errorf("Outcome: place %d, error %d, want %v: %s", place, e, first, showTape(x))
	}
	if l, place, e := engine.Values(x, at); (fault{place, e}) != first || e != api.OK && l != nil {
		t.Errorf("Values: %s, place %d, error %d, want %v: %s", row(l), place, e, first, showTape(x))
	}
	if place, e := engine.OutcomeWith(x, at, w); (fault{place, e}) != second {
		t.Errorf("OutcomeWith: place %d, error %d, want %v: %s", place, e, second, showTape(x))
	}
	for _, plan := range d.jacobianPlans(x) {
		m, sweeps, place, e := engine.Jacobian(x, at, plan)
		if (fault{place, e}) != first || e != api.OK && answerText(m, sweeps, place, e) != faultText(first) {
			t.Errorf("Jacobian: place %d, error %d, want %v: %s, plan %v", place, e, first, showTape(x), plan)
		}
		l, e := engine.Batch(x, [][]api.Rat{at}, plan)
		if e != api.OK || len(l) != 1 || (fault{l[0].Place, l[0].Err}) != first {
			t.Errorf("Batch: %v, error %d, want %v: %s, plan %v", l, e, first, showTape(x), plan)
		}
	}
	for _, plan := range d.hessianPlans(x) {
		m, sweeps, place, e := engine.Hessian(x, at, w, plan)
		if (fault{place, e}) != second || e != api.OK && answerText(m, sweeps, place, e) != faultText(second) {
			t.Errorf("Hessian: place %d, error %d, want %v: %s, plan %v", place, e, second, showTape(x), plan)
		}
	}
}

// P17.1, P17.2: large nodes, the least live one, ahead of poles; the least live pole; what is not live is neither.
func TestOutcomes(t *testing.T) {
	t.Parallel()
	d := dice(10)
	x := must(t, "inputs 2; const 0; in 0; in 1; mul 2 2; div 1 0; mul 3 3; out 5; out 4")
	for _, c := range []struct {
		at []api.Rat
		f  fault
	}{
		{nums("1 1"), fault{4, api.ErrPole}},
		{[]api.Rat{num("1"), power2(1000)}, fault{4, api.ErrPole}},
		{[]api.Rat{num("1"), power2(2050)}, fault{5, api.ErrLarge}},
		{[]api.Rat{num("1"), power2(4100)}, fault{3, api.ErrLarge}},
		{[]api.Rat{num("1"), power2(8188)}, fault{3, api.ErrLarge}},
		{[]api.Rat{num("1"), power2(8189)}, fault{2, api.ErrLarge}},
		{[]api.Rat{over(power2(8189)), power2(8189)}, fault{1, api.ErrLarge}},
		{[]api.Rat{over(power2(8189)), num("0")}, fault{1, api.ErrLarge}},
	} {
		d.wantFault(t, x, c.at, nums("1 1"), c.f, c.f)
	}
	x.Outs = []int{1}
	d.wantFault(t, x, []api.Rat{num("1/3"), power2(60000)}, nums("7"), fault{}, fault{})
	poles := must(t, "inputs 2; in 0; in 1; div 0 1; pow 1 -2; pow 0 -1; mul 3 4; div 5 5; out 6; out 2")
	for _, c := range []struct {
		at   string
		outs []int
		f    fault
	}{
		{"3 2", []int{6, 2}, fault{}}, {"3 0", []int{6, 2}, fault{2, api.ErrPole}}, {"0 0", []int{6, 2}, fault{2, api.ErrPole}}, {"0 2", []int{6, 2}, fault{4, api.ErrPole}},
		{"3 0", []int{6, 6}, fault{3, api.ErrPole}}, {"3 0", []int{4, 0}, fault{}}, {"0 0", []int{4, 0}, fault{4, api.ErrPole}}, {"0 0", []int{0, 1}, fault{}}, {"0 2", []int{2, 3}, fault{}},
	} {
		poles.Outs = c.outs
		d.wantFault(t, poles, nums(c.at), nums("1 1"), c.f, c.f)
		// a weight 0 makes no output less of one
		d.wantFault(t, poles, nums(c.at), nums("0 0"), c.f, c.f)
	}
	// no inputs, no sweeps: the outcome is told all the same
	for text, f := range map[string]fault{
		"inputs 0; const 0; pow 0 -1; out 1":              {1, api.ErrPole},
		"inputs 0; const 7; pow 0 1024; pow 1 9; out 2":   {2, api.ErrLarge},
		"inputs 3; const 0; const 1; div 1 0; out 2":      {2, api.ErrPole},
		"inputs 2; const 3; pow 0 -1024; pow 1 -8; out 2": {2, api.ErrLarge},
	} {
		y := must(t, text)
		d.wantFault(t, y, d.away(y.Inputs), nums("1"), f, f)
	}
}

// P17.1, P17.2: the sum alone is large: the place is the number of all nodes; Jacobians and values go by weights of 1, Hessians by their own.
func TestLargeSum(t *testing.T) {
	t.Parallel()
	d := dice(11)
	x := must(t, "inputs 1; const 0; in 0; neg 0; mul 1 1; div 1 2; neg 3; out 3; out 1")
	heavy := []api.Rat{num("0"), power2(8191)}
	d.wantFault(t, x, nums("5/3"), nums("1/2 -7"), fault{}, fault{})
	d.wantFault(t, x, nums("5/3"), heavy, fault{}, fault{6, api.ErrLarge})
	d.wantFault(t, x, []api.Rat{power2(8189)}, heavy, fault{1, api.ErrLarge}, fault{1, api.ErrLarge})
	x.Outs = []int{3, 4}
	d.wantFault(t, x, nums("5/3"), heavy, fault{4, api.ErrPole}, fault{6, api.ErrLarge})
	// Outputs none of which is large, but their sum is: layer 7 tells their values, the engine does not.
	many := api.Tape{Inputs: 1, Ops: []api.Op{in(0), pow(0, 40), neg(0)}}
	for len(many.Outs) < api.MaxOutputs {
		many.Outs = append(many.Outs, 1)
	}
	at := nums("12345/12344")
	if _, _, e := sweep.Values(many, at); e != api.OK {
		t.Fatalf("Values of layer 7: error %d", e)
	}
	d.wantFault(t, many, at, all1(many), fault{3, api.ErrLarge}, fault{3, api.ErrLarge})
	// the longest list of outputs that is not large, and one more
	for len(many.Outs) > 1 {
		if _, e := engine.Outcome(many, at); e == api.OK {
			break
		}
		many.Outs = many.Outs[:len(many.Outs)-1]
	}
	if n := len(many.Outs); n < 2 || n > 60 {
		t.Fatalf("%d outputs", n)
	}
	d.wantFault(t, many, at, all1(many), fault{}, fault{})
	wantOutcomes(t, many, at, all1(many))
	many.Outs = append(many.Outs, 1)
	d.wantFault(t, many, at, all1(many), fault{3, api.ErrLarge}, fault{3, api.ErrLarge})
	wantOutcomes(t, many, at, all1(many))
}

// P17.2, DOC.md's P6: tapes that are nearly large, at numbers of many bits: what is not large is answered, by every mode and route.
func TestNearlyLarge(t *testing.T) {
	t.Parallel()
	d := dice(12)
	large, near := 0, 0
	for near < 25 {
		x := d.tape(9)
		if x.Inputs == 0 || x.Inputs > 4 {
			continue
		}
		size := 20 + d.next(900)
		many := func(n int) []api.Rat {
			return some(n, func(int) api.Rat { return d.bits(1+d.next(size), 1+d.next(size)) })
		}
		at, w := many(x.Inputs), many(len(x.Outs))
		if d.next(2) == 0 {
			w = d.point(len(x.Outs))
		}
		f := wantOutcomes(t, x, at, w)
		if f.e == api.ErrLarge {
			large++
			d.wantEveryPlan(t, x, at, w)
			continue
		}
		if weightOf(x, at, w) > 5000 && weightOf(x, at, all1(x)) <= api.MaxBits {
			near++
			wantNear(t, &d, x, at, w)
		}
	}
	if large < 10 {
		t.Errorf("%d tapes were large", large)
	}
}

// wantNear is wantEveryPlan with one order a mode and a route: numbers of many bits take long.
func wantNear(t *testing.T, d *dice, x api.Tape, at, w []api.Rat) {
	t.Helper()
	for _, m := range modes() {
		wantJacobian(t, x, at, api.Plan{Mode: m, Order: api.OrderKind(1 + d.next(4)), Workers: 1 + d.next(16)})
	}
	for _, r := range routes() {
		wantHessian(t, x, at, w, api.Plan{Route: r, Order: api.OrderKind(1 + d.next(4)), Workers: 1 + d.next(16)})
	}
}

// DOC.md's P6: quotients, powers and sums at the greatest points that are not large, by every mode and route.
func TestEdgeOfLarge(t *testing.T) {
	t.Parallel()
	d := dice(13)
	for _, text := range []string{
		"inputs 2; in 0; in 1; div 0 1; out 2",
		"inputs 2; in 0; in 1; div 0 1; div 1 2; mul 2 3; out 4; out 0",
		"inputs 2; in 0; in 1; mul 0 1; pow 2 -3; out 3",
		"inputs 2; in 0; in 1; div 0 1; add 2 0; pow 3 -1; mul 4 1; out 5; out 2",
		"inputs 3; in 0; in 1; in 2; div 0 1; div 0 2; mul 3 4; add 5 1; out 6; out 3; out 4",
		"inputs 4; in 0; in 1; in 2; in 3; div 0 1; div 0 2; div 0 3; add 4 5; add 7 6; out 8",
		"inputs 1; in 0; pow 0 -40; out 1; out 0",
	} {
		x := must(t, text)
		w := all1(x)
		bits := 0
		var last []api.Rat
		// The point grows until it is large; the last one that is not is looked at.
		for step := 4096; step > 0; step /= 2 {
			at := some(x.Inputs, func(int) api.Rat { return d.bits(bits+step, bits+step-1) })
			if _, e := engine.OutcomeWith(x, at, w); e == api.OK {
				bits += step
				last = at
			}
		}
		if most := weightOf(x, last, w); most < 7500 {
			t.Errorf("%s: %d bits weigh %d", text, bits, most)
		}
		wantNear(t, &d, x, last, w)
	}
}
