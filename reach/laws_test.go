package reach_test

import (
	"slices"
	"testing"

	"slope/api"
	"slope/bitset"
	"slope/reach"
	"slope/series"
	"slope/sparse"
	"slope/sweep"
	"slope/tape"
)

// jacobian is a tape's, which may be.
func jacobian(t *testing.T, x api.Tape) api.Pattern {
	t.Helper()
	p, place, e := reach.Jacobian(x)
	if place != 0 || e != api.OK || !sparse.May(p) {
		t.Fatalf("Jacobian: place %d, error %d: %s", place, e, showTape(x))
	}
	return p
}

// hessian is a tape's, which may be.
func hessian(t *testing.T, x api.Tape) api.Pattern {
	t.Helper()
	p, place, e := reach.Hessian(x)
	if place != 0 || e != api.OK || !sparse.May(p) {
		t.Fatalf("Hessian: place %d, error %d: %s", place, e, showTape(x))
	}
	return p
}

// same tells whether two patterns have the same places.
func same(a, b api.Pattern) bool { return answer{pat: a}.text() == answer{pat: b}.text() }

// P10.2, P10.3: the Hessian is symmetric, and each of its places stands with both in one row of the Jacobian; tables, patterns, ways and bends tell the same.
func wantOneStory(t *testing.T, x api.Tape) {
	t.Helper()
	p, h := jacobian(t, x), hessian(t, x)
	if p.Rows != len(x.Outs) || p.Width != x.Inputs || h.Rows != x.Inputs || !sparse.Symmetric(h) {
		t.Errorf("sizes, or a Hessian that is not symmetric: %s", showTape(x))
	}
	inputs, _, _ := reach.Inputs(x)
	joins, _, _ := reach.Joins(x)
	if !bitset.MayTable(inputs) || !bitset.MayTable(joins) || len(inputs.Sets) != len(x.Ops) || len(joins.Sets) != x.Inputs {
		t.Fatalf("Inputs, Joins: %v, %v: %s", inputs, joins, showTape(x))
	}
	for j := range x.Inputs {
		for i, n := range x.Outs {
			l, _, _ := reach.Way(x, i, j)
			if is := sparse.Has(p, i, j); is != bitset.Has(inputs.Sets[n], j) || is != (len(l) > 0) {
				t.Errorf("output %d, input %d: %v, way %v: %s", i, j, is, l, showTape(x))
			}
		}
		for k := range x.Inputs {
			n, found, _, _ := reach.Bend(x, j, k)
			is := sparse.Has(h, j, k)
			if is != bitset.Has(joins.Sets[j], k) || is != found || !found && n != 0 {
				t.Errorf("inputs %d, %d: %v, node %d, %v: %s", j, k, is, n, found, showTape(x))
			}
			both := func(i int) bool { return sparse.Has(p, i, j) && sparse.Has(p, i, k) }
			if is && !slices.ContainsFunc(numbers(p.Rows), both) {
				t.Errorf("inputs %d, %d are in no row together: %s", j, k, showTape(x))
			}
		}
	}
}

// numbers are those from 0 on, so many.
func numbers(n int) []int {
	var l []int
	for i := range n {
		l = append(l, i)
	}
	return l
}

func TestOneStory(t *testing.T) {
	t.Parallel()
	d := dice(21)
	for range 1500 {
		wantOneStory(t, d.small(16, anyPowers()...))
	}
}

// answered are tapes with points, one after the other, until so many are answered by Values.
func (d *dice) answered(many int, f func(x api.Tape, at []api.Rat)) {
	for many > 0 {
		x := d.small(12, fewPowers()...)
		at := d.point(x.Inputs)
		if _, _, e := sweep.Values(x, at); e == api.OK {
			f(x, at)
			many--
		}
	}
}

// tally counts numbers that must be 0, those that may be anything, and of these the ones that are not 0.
type tally struct{ out, in, some int }

// count looks at a number that stands at a place or at none.
func (c *tally) count(is bool, r api.Rat) bool {
	switch {
	case !is:
		c.out++
		return isZero(r)
	case !isZero(r):
		c.some++
	}
	c.in++
	return true
}

// enough fails if too few were met, or too few places have anything but 0: patterns of nothing but places would hold as well.
func (c tally) enough(t *testing.T, out, in int) {
	t.Helper()
	if c.out < out || c.in < in || 2*c.some < c.in {
		t.Errorf("counted: %+v", c)
	}
}

// P10.5, 1: derivatives that are in no place of the Jacobian are 0, forward and in reverse.
func TestFirstZero(t *testing.T) {
	t.Parallel()
	d := dice(22)
	var forward, reverse tally
	d.answered(1500, func(x api.Tape, at []api.Rat) {
		p := jacobian(t, x)
		columns, _, e := sweep.Forward(x, at, units(x.Inputs))
		lines, _, f := sweep.Reverse(x, at, units(len(x.Outs)))
		for i := range x.Outs {
			for j := range x.Inputs {
				is := sparse.Has(p, i, j)
				if e == api.OK && !forward.count(is, columns[j][i]) || f == api.OK && !reverse.count(is, lines[i][j]) {
					t.Errorf("output %d by input %d is not 0: %s", i, j, showTape(x))
				}
			}
		}
	})
	forward.enough(t, 1500, 1500)
	reverse.enough(t, 1500, 1500)
}

// P10.5, 1: numbers of the direction whose columns have no place in a row change nothing of that output.
func TestOtherColumns(t *testing.T) {
	t.Parallel()
	d := dice(23)
	moved, others := 0, 0
	d.answered(1500, func(x api.Tape, at []api.Rat) {
		p := jacobian(t, x)
		v := d.point(x.Inputs)
		for i := range x.Outs {
			u := d.point(x.Inputs)
			for _, c := range p.Cols[p.Start[i]:p.Start[i+1]] {
				u[c] = v[c]
			}
			l, _, e := sweep.Forward(x, at, [][]api.Rat{v, u})
			if e != api.OK {
				continue
			}
			if row(l[0][i:i+1]) != row(l[1][i:i+1]) {
				t.Errorf("output %d along (%s) and (%s): %s", i, row(v), row(u), showTape(x))
			}
			if row(u) != row(v) {
				moved++
			}
			if row(l[0]) != row(l[1]) {
				others++
			}
		}
	})
	if moved < 500 || others < 100 {
		t.Errorf("another direction %d times, another output's derivative %d times", moved, others)
	}
}

// P10.5, 2: second derivatives of weighted sums that are in no place of the Hessian are 0.
func TestSecondZero(t *testing.T) {
	t.Parallel()
	d := dice(24)
	var c tally
	d.answered(4000, func(x api.Tape, at []api.Rat) {
		h := hessian(t, x)
		w := d.point(len(x.Outs))
		l, _, e := sweep.Second(x, at, w, units(x.Inputs))
		if e != api.OK {
			return
		}
		for j := range x.Inputs {
			for k := range x.Inputs {
				if !c.count(sparse.Has(h, j, k), l[k][j]) {
					t.Errorf("by inputs %d and %d it is not 0: %s", j, k, showTape(x))
				}
			}
		}
	})
	c.enough(t, 3000, 1000)
}

// P10.5, 3: of nodes that have a degree all coefficients of their series above it are 0.
func TestDegreeZero(t *testing.T) {
	t.Parallel()
	d := dice(25)
	above, least, none := 0, 0, 0
	d.answered(1500, func(x api.Tape, at []api.Rat) {
		degrees, _, _ := reach.Degree(x)
		// each node for itself, those that are not live too
		for n, degree := range degrees {
			order := pick(&d, 3, 5, 8, 16)
			l, _, e := series.Expand(with(x, n), at, d.point(x.Inputs), order)
			switch {
			case e != api.OK:
				continue
			case degree < 0:
				none++
				continue
			case degree >= order:
				continue
			}
			for k, c := range l[0] {
				if k > degree && !isZero(c) {
					t.Errorf("node %d of degree %d, coefficient %d is not 0: %s", n, degree, k, showTape(x))
				}
			}
			above++
			if degree > 0 && !isZero(l[0][degree]) {
				least++
			}
		}
	})
	if above < 3000 || least < 500 || none < 500 {
		t.Errorf("series: %d of a degree, of %d of them the degree is no less; %d of none", above, least, none)
	}
}

// P10.5, 4: second derivatives of outputs that are Linear are 0.
func TestLinearZero(t *testing.T) {
	t.Parallel()
	d := dice(26)
	zero, some := 0, 0
	d.answered(1500, func(x api.Tape, at []api.Rat) {
		linear, _, _ := reach.Linear(x)
		w := slices.Repeat(nums("0"), len(x.Outs))
		for i := range w {
			if linear[i] {
				w[i] = num(pick(&d, "1", "-2/3", "5"))
			}
		}
		l, _, e := sweep.Second(x, at, w, append(units(x.Inputs), d.point(x.Inputs)))
		if e != api.OK {
			return
		}
		for _, r := range l {
			if slices.ContainsFunc(r, func(r api.Rat) bool { return !isZero(r) }) {
				t.Errorf("second derivatives (%s): %s", row(r), showTape(x))
			}
		}
		if slices.Contains(linear, true) && x.Inputs > 0 {
			zero++
		}
		for i := range w {
			if !linear[i] {
				w[i] = num("1")
			}
		}
		if l, _, e := sweep.Second(x, at, w, units(x.Inputs)); e == api.OK && slices.ContainsFunc(l, func(r []api.Rat) bool { return slices.ContainsFunc(r, func(r api.Rat) bool { return !isZero(r) }) }) {
			some++
		}
	})
	if zero < 500 || some < 100 {
		t.Errorf("linear outputs %d times, second derivatives that are not 0 %d times", zero, some)
	}
}

// union is the union of a pattern's rows, in one row.
func union(p api.Pattern) api.Pattern {
	z := api.Pattern{Rows: 1, Width: p.Width, Cols: slices.Clone(p.Cols)}
	slices.Sort(z.Cols)
	z.Cols = slices.Compact(z.Cols)
	z.Start = []int{0, len(z.Cols)}
	return z
}

// wantTrimmed fails if Trim, Merge or Clean change a pattern.
func wantTrimmed(t *testing.T, x api.Tape) {
	t.Helper()
	p, h := jacobian(t, x), hessian(t, x)
	for name, form := range map[string]func(api.Tape) (api.Tape, []int, api.Errno){"Trim": tape.Trim, "Merge": tape.Merge, "Clean": tape.Clean} {
		y, _, e := form(x)
		if e != api.OK || !same(jacobian(t, y), p) || !same(hessian(t, y), h) {
			t.Errorf("%s: error %d: %s and %s", name, e, showTape(x), showTape(y))
		}
	}
}

// wantForms fails if another form of a tape has other patterns.
func wantForms(t *testing.T, x api.Tape, w []api.Rat) {
	t.Helper()
	wantTrimmed(t, x)
	y, e := tape.Blend(x, w)
	if e != api.OK || !same(jacobian(t, y), union(jacobian(t, x))) || !same(hessian(t, y), hessian(t, x)) {
		t.Errorf("Blend: error %d: %s and %s", e, showTape(x), showTape(y))
	}
}

// P10.6: Trim, Merge, Clean and Blend.
func TestForms(t *testing.T) {
	t.Parallel()
	d := dice(27)
	s := seen{}
	for range 1500 {
		x := d.small(16, anyPowers()...)
		wantForms(t, x, d.point(len(x.Outs)))
		s.look(newPlain(x))
		if y, _, _ := tape.Trim(x); len(y.Ops) < len(x.Ops) {
			s["less by Trim"]++
		}
		if y, _, _ := tape.Merge(x); len(y.Ops) < len(x.Ops) {
			s["less by Merge"]++
		}
	}
	s.wantEvery(t, 50, anyPowers())
	s.want(t, 200, "less by Trim", "less by Merge")
}

// behind is the tape that does one and then, with its outputs as inputs, another one.
func behind(x, y api.Tape) api.Tape {
	z := api.Tape{Inputs: x.Inputs, Ops: slices.Clone(x.Ops)}
	n := len(x.Ops)
	for _, op := range y.Ops {
		switch op.Kind {
		case api.OpInput:
			op = pow(x.Outs[op.A], 1)
		case api.OpAdd, api.OpSub, api.OpMul, api.OpDiv:
			op.A, op.B = op.A+n, op.B+n
		case api.OpNeg, api.OpPow:
			op.A += n
		}
		z.Ops = append(z.Ops, op)
	}
	for _, out := range y.Outs {
		z.Outs = append(z.Outs, out+n)
	}
	return z
}

// wantProduct fails if the Jacobian of one tape behind another is not the product of theirs.
func wantProduct(t *testing.T, x, y api.Tape) api.Pattern {
	t.Helper()
	want, e := sparse.Product(jacobian(t, y), jacobian(t, x))
	if got := jacobian(t, behind(x, y)); e != api.OK || !same(got, want) {
		t.Errorf("error %d: %v, want %v: %s and %s", e, got, want, showTape(x), showTape(y))
	}
	return want
}

// P10.6: a tape and then another one.
func TestBehind(t *testing.T) {
	t.Parallel()
	d := dice(28)
	s := seen{}
	full, empty := 0, 0
	for range 3000 {
		x := d.small(14, anyPowers()...)
		y := d.tape(len(x.Outs), 1+d.next(14), 1+d.next(4), anyPowers()...)
		p := wantProduct(t, x, y)
		s.look(newPlain(x))
		full += len(p.Cols)
		empty += p.Rows*p.Width - len(p.Cols)
	}
	s.wantEvery(t, 100, anyPowers())
	if full < 3000 || empty < 3000 {
		t.Errorf("places %d, others %d", full, empty)
	}
}
