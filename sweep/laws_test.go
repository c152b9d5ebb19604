package sweep_test

import (
	"math/big"
	"slices"
	"testing"

	"slope/api"
	"slope/sweep"
	"slope/tape"
)

// Tapes at a point that are answered, one after the other, until there are so many.
func (d *dice) answered(many int, f func(x api.Tape, at []api.Rat)) {
	for many > 0 {
		x := d.tape(12)
		at := d.point(x.Inputs)
		if _, _, e := sweep.Values(x, at); e == api.OK {
			f(x, at)
			many--
		}
	}
}

// forward is that along one direction.
func forward(t *testing.T, x api.Tape, at, v []api.Rat) []api.Rat {
	t.Helper()
	d, place, e := sweep.Forward(x, at, [][]api.Rat{v})
	if place != 0 || e != api.OK || len(d) != 1 {
		t.Fatalf("Forward: %d lists, place %d, error %d: %s", len(d), place, e, showTape(x))
	}
	return d[0]
}

// reverse is that of one list of weights.
func reverse(t *testing.T, x api.Tape, at, w []api.Rat) []api.Rat {
	t.Helper()
	d, place, e := sweep.Reverse(x, at, [][]api.Rat{w})
	if place != 0 || e != api.OK || len(d) != 1 {
		t.Fatalf("Reverse: %d lists, place %d, error %d: %s", len(d), place, e, showTape(x))
	}
	return d[0]
}

// second is that along one direction.
func second(t *testing.T, x api.Tape, at, w, v []api.Rat) []api.Rat {
	t.Helper()
	d, place, e := sweep.Second(x, at, w, [][]api.Rat{v})
	if place != 0 || e != api.OK || len(d) != 1 {
		t.Fatalf("Second: %d lists, place %d, error %d: %s", len(d), place, e, showTape(x))
	}
	return d[0]
}

// isLarge tells whether a tape is large with a direction and weights.
func isLarge(x api.Tape, at, v, w []api.Rat) bool {
	_, found, _ := tape.LargeSum(x, at, v, w)
	return found
}

// P7.5, 1: coefficients 1 and 2 of the series along a direction.
func TestSeries(t *testing.T) {
	t.Parallel()
	d := dice(21)
	d.answered(300, func(x api.Tape, at []api.Rat) {
		v, w := d.point(x.Inputs), d.point(len(x.Outs))
		if isLarge(x, at, v, w) {
			return
		}
		r := series()
		l := r.run(x, r.line(at, v, 1), nobody)
		p := newPlain(x, at)
		if got, want := row(forward(t, x, at, v)), p.outs(l, 1); got != want {
			t.Errorf("coefficient 1: %s, want %s: %s", got, want, showTape(x))
		}
		twice := new(big.Rat).Mul(p.sum(l, 2, w), big.NewRat(2, 1)).RatString()
		if got := bigDot(v, second(t, x, at, w, v)); got != twice {
			t.Errorf("twice coefficient 2: %s, want %s: %s", got, twice, showTape(x))
		}
	})
}

// P7.5, 2: Forward and Reverse are one matrix.
func TestOneMatrix(t *testing.T) {
	t.Parallel()
	d := dice(22)
	d.answered(400, func(x api.Tape, at []api.Rat) {
		v, w := d.point(x.Inputs), d.point(len(x.Outs))
		if isLarge(x, at, v, w) {
			return
		}
		if a, b := bigDot(w, forward(t, x, at, v)), bigDot(v, reverse(t, x, at, w)); a != b {
			t.Errorf("%s forward, %s in reverse: %s", a, b, showTape(x))
		}
		columns, place, e := sweep.Forward(x, at, units(x.Inputs))
		lines, q, f := sweep.Reverse(x, at, units(len(x.Outs)))
		if e != api.OK || place != 0 || f == api.ErrLarge {
			return
		}
		if f != api.OK || q != 0 || len(columns) != x.Inputs || len(lines) != len(x.Outs) {
			t.Fatalf("Reverse: %d, %d: %s", q, f, showTape(x))
		}
		for i := range lines {
			for j := range columns {
				if show(lines[i][j]) != show(columns[j][i]) {
					t.Errorf("output %d by input %d: %s in reverse, %s forward: %s", i, j, show(lines[i][j]), show(columns[j][i]), showTape(x))
				}
			}
		}
	})
}

// P7.5, 3: Second is symmetric.
func TestSymmetric(t *testing.T) {
	t.Parallel()
	d := dice(23)
	d.answered(400, func(x api.Tape, at []api.Rat) {
		u, v, w := d.point(x.Inputs), d.point(x.Inputs), d.point(len(x.Outs))
		if isLarge(x, at, u, w) || isLarge(x, at, v, w) {
			return
		}
		if a, b := bigDot(u, second(t, x, at, w, v)), bigDot(v, second(t, x, at, w, u)); a != b {
			t.Errorf("%s and %s: %s", a, b, showTape(x))
		}
	})
}

// mix is a times one list and b times another.
func mix(a api.Rat, x []api.Rat, b api.Rat, y []api.Rat) []api.Rat {
	var z []api.Rat
	for i := range x {
		p := new(big.Rat).Mul(bigOf(a), bigOf(x[i]))
		z = append(z, ratOf(p.Add(p, new(big.Rat).Mul(bigOf(b), bigOf(y[i])))))
	}
	return z
}

// P7.5, 4: Forward is linear in the direction, Reverse in the weights, Second in both.
func TestLinear(t *testing.T) {
	t.Parallel()
	d := dice(24)
	d.answered(300, func(x api.Tape, at []api.Rat) {
		u, v, w, y := d.point(x.Inputs), d.point(x.Inputs), d.point(len(x.Outs)), d.point(len(x.Outs))
		a, b := num(pick(&d, "0", "1", "-1", "3/7")), num(pick(&d, "0", "1", "-5/2"))
		uv, wy := mix(a, u, b, v), mix(a, w, b, y)
		for _, direction := range [][]api.Rat{u, v, uv} {
			for _, weights := range [][]api.Rat{w, y, wy} {
				if isLarge(x, at, direction, weights) {
					return
				}
			}
		}
		want := func(what string, got, first, then []api.Rat) {
			t.Helper()
			if row(got) != row(mix(a, first, b, then)) {
				t.Errorf("%s is not linear: %s", what, showTape(x))
			}
		}
		want("Forward", forward(t, x, at, uv), forward(t, x, at, u), forward(t, x, at, v))
		want("Reverse", reverse(t, x, at, wy), reverse(t, x, at, w), reverse(t, x, at, y))
		want("Second, by the direction", second(t, x, at, w, uv), second(t, x, at, w, u), second(t, x, at, w, v))
		want("Second, by the weights", second(t, x, at, wy, u), second(t, x, at, w, u), second(t, x, at, y, u))
	})
}

// slope is the chapter's column 'by A' or 'by B', at the values.
func slope(op api.Op, place int, values []api.Rat) *big.Rat {
	a, b := bigOf(values[op.A]), bigOf(values[op.B])
	one := big.NewRat(1, 1)
	switch op.Kind {
	case api.OpSub:
		return big.NewRat(int64(1-2*place), 1)
	case api.OpNeg:
		return big.NewRat(-1, 1)
	case api.OpMul:
		return []*big.Rat{b, a}[place]
	case api.OpDiv:
		z := new(big.Rat).Quo(one, b)
		if place == 1 {
			z.Mul(z, z).Mul(z, a).Neg(z)
		}
		return z
	case api.OpPow:
		z := big.NewRat(int64(op.N), 1)
		for n := op.N - 1; op.N != 0 && n != 0; {
			if n > 0 {
				z.Mul(z, a)
				n--
			} else {
				z.Quo(z, a)
				n++
			}
		}
		return z
	}
	return one
}

// cutPart is what Reverse of Cut's tape is to answer: of each node below upto the part of its adjoint that comes from the outputs and from places of nodes from upto on, and of each input that of the nodes from upto on.
func cutPart(x api.Tape, upto int, values, adjoints, w []api.Rat) string {
	z := make([]*big.Rat, upto+x.Inputs)
	for i := range z {
		z[i] = new(big.Rat)
	}
	for i, n := range x.Outs {
		if n < upto {
			z[n].Add(z[n], bigOf(w[i]))
		}
	}
	alive, _ := tape.Live(x)
	for i := upto; i < len(x.Ops); i++ {
		op := x.Ops[i]
		if op.Kind == api.OpInput {
			z[upto+op.A].Add(z[upto+op.A], bigOf(adjoints[i]))
		}
		for place, n := range operandsOf(op) {
			if alive[i] && n < upto {
				z[n].Add(z[n], new(big.Rat).Mul(slope(op, place, values), bigOf(adjoints[i])))
			}
		}
	}
	return bigRow(z)
}

// P7.5, 5: at every number at which a tape may be cut.
func TestCut(t *testing.T) {
	t.Parallel()
	d := dice(25)
	cuts, middle := 0, 0
	d.answered(300, func(x api.Tape, at []api.Rat) {
		w := d.point(len(x.Outs))
		values, _, _ := sweep.Nodes(x, at)
		adjoints, _, e := sweep.Adjoints(x, at, w)
		if e != api.OK {
			return
		}
		before, _, _ := sweep.Values(x, at)
		for upto := range len(x.Ops) + 1 {
			c, e := tape.Cut(x, upto)
			if e != api.OK {
				t.Fatalf("Cut: %d", e)
			}
			point := append(slices.Clone(values[:upto]), at...)
			l, place, e := sweep.Values(c, point)
			if e == api.ErrLarge {
				continue
			}
			wantRow(t, "Values of a cut tape", l, place, e, row(before))
			if isLarge(c, point, nil, w) {
				continue
			}
			cuts++
			got := row(reverse(t, c, point, w))
			if want := cutPart(x, upto, values, adjoints, w); got != want {
				t.Errorf("cut at %d: %s, want %s: %s", upto, short(got), short(want), showTape(x))
			}
			if upto > 0 && upto < len(x.Ops) && got != row(adjoints[:upto]) {
				middle++
			}
		}
	})
	if cuts < 1500 || middle < 300 {
		t.Errorf("%d cuts, %d in the middle", cuts, middle)
	}
}

// P7.5, 5: a tape of as many inputs as it may be cut into.
func TestCutMost(t *testing.T) {
	x := api.Tape{Inputs: 1, Ops: []api.Op{in(0)}}
	for i := range 80 {
		x.Ops = append(x.Ops, pick(ptr(dice(i)), neg(i), two(api.OpAdd, i, 0), two(api.OpSub, i, i/2), pow(i, 1)))
	}
	x.Outs = []int{80, 63, 62, 5}
	at, w := nums("3/2"), nums("1 2 -3 1/2")
	values, _, _ := sweep.Nodes(x, at)
	adjoints, _, _ := sweep.Adjoints(x, at, w)
	for _, upto := range []int{0, 1, 62, 63} {
		c, e := tape.Cut(x, upto)
		if e != api.OK {
			t.Fatalf("Cut at %d: %d", upto, e)
		}
		d, place, e := sweep.Reverse(c, append(slices.Clone(values[:upto]), at...), [][]api.Rat{w})
		wantRows(t, "Reverse", d, place, e, cutPart(x, upto, values, adjoints, w))
	}
	if _, e := tape.Cut(x, 64); e != api.ErrInputs {
		t.Errorf("Cut at 64: %d", e)
	}
}

// ptr is a value's place.
func ptr[T any](v T) *T { return &v }

// P7.5, 6: nothing hangs on nodes that are not live, or that are said twice.
func TestTrimmed(t *testing.T) {
	t.Parallel()
	d := dice(26)
	fewer := 0
	for range 700 {
		x := d.tape(14)
		at := d.point(x.Inputs)
		w, along := d.points(2, len(x.Outs)), d.points(2, x.Inputs)
		trimmed, to, _ := tape.Trim(x)
		merged, _, _ := tape.Merge(x)
		clean, through, _ := tape.Clean(x)
		want := outcome(x, at, w, along)
		for what, y := range map[string]api.Tape{"Trim": trimmed, "Merge": merged, "Clean": clean} {
			got := outcome(y, at, w, along)
			for i := range want {
				if want[i] != "" && got[i] != "" && want[i] != got[i] {
					t.Errorf("%s, call %d: %s, want %s: %s", what, i, got[i], want[i], showTape(x))
				}
			}
			if len(y.Ops) < len(x.Ops) {
				fewer++
			}
		}
		// a fault's node goes through the lists
		if _, place, e := sweep.Values(x, at); e == api.ErrPole || e == api.ErrLarge {
			_, p, f := sweep.Values(trimmed, at)
			_, q, g := sweep.Values(clean, at)
			if f != e || g != e || p != to[place] || q != through[place] {
				t.Errorf("place %d, error %d; trimmed %d, %d; clean %d, %d: %s", place, e, p, f, q, g, showTape(x))
			}
		}
	}
	if fewer < 500 {
		t.Errorf("%d tapes had fewer nodes", fewer)
	}
}

// outcome is what the calls answer, empty where one is refused.
func outcome(x api.Tape, at []api.Rat, w, along [][]api.Rat) []string {
	text := func(s string, e api.Errno) string {
		if e != api.OK {
			return ""
		}
		return "answer " + s
	}
	l, _, e := sweep.Values(x, at)
	z := []string{text(row(l), e)}
	d, _, e := sweep.Forward(x, at, along)
	z = append(z, text(rows(d), e))
	d, _, e = sweep.Reverse(x, at, w)
	z = append(z, text(rows(d), e))
	d, _, e = sweep.Second(x, at, w[0], along)
	return append(z, text(rows(d), e))
}

// P7.6: what is answered for a direction or a list doesn't hang on the others.
func TestManyAtOnce(t *testing.T) {
	t.Parallel()
	d := dice(27)
	d.answered(200, func(x api.Tape, at []api.Rat) {
		many := d.next(9)
		w, along := d.points(many, len(x.Outs)), d.points(many, x.Inputs)
		one := d.point(len(x.Outs))
		var want [3]string
		for i := range many {
			if isLarge(x, at, along[i], one) || isLarge(x, at, nil, w[i]) {
				return
			}
			want[0] += "(" + row(forward(t, x, at, along[i])) + ")"
			want[1] += "(" + row(reverse(t, x, at, w[i])) + ")"
			want[2] += "(" + row(second(t, x, at, one, along[i])) + ")"
		}
		a, _, _ := sweep.Forward(x, at, along)
		b, _, _ := sweep.Reverse(x, at, w)
		c, _, _ := sweep.Second(x, at, one, along)
		if got := [3]string{rows(a), rows(b), rows(c)}; got != want {
			t.Errorf("%d at once: %s, want %s: %s", many, short(got[0]+got[1]+got[2]), short(want[0]+want[1]+want[2]), showTape(x))
		}
	})
}
