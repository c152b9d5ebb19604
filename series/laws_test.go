package series_test

import (
	"math/big"
	"testing"

	"slope/api"
	"slope/series"
	"slope/sweep"
	"slope/tape"
)

// expanded is a tape on a line, with what Expand answers.
type expanded struct {
	x         api.Tape
	at, along []api.Rat
	degree    int
	outs      [][]api.Rat
}

// answered calls f with tapes that Expand answers, until there were so many.
func (d *dice) answered(many int, make func() api.Tape, f func(c expanded)) {
	for many > 0 {
		c := expanded{x: make(), degree: d.degree()}
		c.at, c.along = d.point(c.x.Inputs), d.point(c.x.Inputs)
		var e api.Errno
		if c.outs, _, e = series.Expand(c.x, c.at, c.along, c.degree); e == api.OK {
			f(c)
			many--
		}
	}
}

// moved is the point x + s * v.
func moved(at []api.Rat, s api.Rat, along []api.Rat) []api.Rat {
	var z []api.Rat
	for i := range at {
		p := new(big.Rat).Mul(bigOf(s).Rat, bigOf(along[i]).Rat)
		z = append(z, ratOf(p.Add(p, bigOf(at[i]).Rat)))
	}
	return z
}

// P8.4, 1: coefficient 0 is the value at the point.
func TestValues(t *testing.T) {
	t.Parallel()
	d := dice(21)
	d.answered(500, func() api.Tape { return d.tape(12) }, func(c expanded) {
		values, _, e := sweep.Values(c.x, c.at)
		if e == api.ErrLarge {
			return
		}
		if e != api.OK || len(values) != len(c.outs) {
			t.Fatalf("sweep.Values: %d: %s", e, showTape(c.x))
		}
		for i := range values {
			if show(c.outs[i][0]) != show(values[i]) {
				t.Errorf("output %d: %s, want %s: %s", i, show(c.outs[i][0]), show(values[i]), showTape(c.x))
			}
		}
	})
}

// polynomial is a tape at random of inputs, constants, sums, differences, negatives, products and powers above 0, none of degree above MaxOrder, and the greatest degree of its outputs.
func (d *dice) polynomial() (api.Tape, int) {
	x := d.tape(14)
	degrees := make([]int, len(x.Ops))
	for n := range x.Ops {
		op := &x.Ops[n]
		if op.Kind == api.OpDiv {
			op.Kind = api.OpMul
		}
		if op.Kind == api.OpPow && op.N < 1 {
			op.N = 1 - op.N
		}
		most, all := 0, 0
		for _, k := range operandsOf(*op) {
			most, all = max(most, degrees[k]), all+degrees[k]
		}
		switch op.Kind {
		case api.OpInput:
			degrees[n] = 1
		case api.OpMul:
			degrees[n] = all
		case api.OpPow:
			degrees[n] = op.N * most
		default:
			degrees[n] = most
		}
		if degrees[n] > api.MaxOrder {
			*op, degrees[n] = api.Op{Kind: api.OpNeg, A: op.A}, degrees[op.A]
		}
	}
	most := 0
	for _, n := range x.Outs {
		most = max(most, degrees[n])
	}
	return x, most
}

// P8.4, 2: a polynomial's coefficients give its value at every number.
func TestPolynomials(t *testing.T) {
	t.Parallel()
	d := dice(22)
	long := 0
	for range 600 {
		x, degree := d.polynomial()
		degree = min(degree+d.next(2), api.MaxOrder)
		at, along := d.point(x.Inputs), d.point(x.Inputs)
		outs, _, e := series.Expand(x, at, along, degree)
		if e == api.ErrLarge {
			continue
		}
		if e != api.OK {
			t.Fatalf("Expand: %d: %s", e, showTape(x))
		}
		for _, s := range nums("0 1 -1 2 1/2 -7/3 100 355/113") {
			values, _, e := sweep.Values(x, moved(at, s, along))
			if e == api.ErrLarge {
				continue
			}
			for i, c := range outs {
				if degree >= 10 && !isZero(c[degree]) {
					long++
				}
				want := jetOf(len(c), c...).put(jetOf(1, s)).text()
				if show(values[i]) != want {
					t.Errorf("output %d at %s: %s, want %s: %s", i, show(s), show(values[i]), want, showTape(x))
				}
				if v, e := series.At(c, s); e != api.OK && e != api.ErrLarge || e == api.OK && show(v) != want {
					t.Errorf("At: %s, %d, want %s", show(v), e, want)
				}
			}
		}
	}
	if long < 50 {
		t.Errorf("%d polynomials of high degree", long)
	}
}

// isZero tells whether a number is 0.
func isZero(r api.Rat) bool { return len(r.Num) == 0 }

// P8.4, 3: with s * v in the place of v coefficient k is multiplied by s^k.
func TestScaled(t *testing.T) {
	t.Parallel()
	d := dice(23)
	d.answered(300, func() api.Tape { return d.tape(12) }, func(c expanded) {
		for _, s := range nums("0 1 -1 2 -3/5") {
			zeros := make([]api.Rat, len(c.along))
			for i := range zeros {
				zeros[i] = num("0")
			}
			outs, _, e := series.Expand(c.x, c.at, moved(zeros, s, c.along), c.degree)
			if e == api.ErrLarge {
				continue
			}
			if e != api.OK {
				t.Fatalf("Expand: %d: %s", e, showTape(c.x))
			}
			for i := range outs {
				factor := big.NewRat(1, 1)
				for k, r := range outs[i] {
					if want := new(big.Rat).Mul(factor, bigOf(c.outs[i][k]).Rat); show(r) != (number{want}).text() {
						t.Errorf("output %d, coefficient %d, times %s: %s, want %s: %s", i, k, show(s), show(r), number{want}.text(), showTape(c.x))
					}
					factor = new(big.Rat).Mul(factor, bigOf(s).Rat)
				}
			}
		}
	})
}

// P8.4, 4: a lower degree gives the beginning of the same lists.
func TestLowerDegree(t *testing.T) {
	t.Parallel()
	d := dice(24)
	d.answered(300, func() api.Tape { return d.tape(12) }, func(c expanded) {
		for degree := range c.degree + 1 {
			outs, place, e := series.Expand(c.x, c.at, c.along, degree)
			if place != 0 || e != api.OK || len(outs) != len(c.outs) {
				t.Fatalf("degree %d: %d lists, %d, %d: %s", degree, len(outs), place, e, showTape(c.x))
			}
			for i := range outs {
				if row(outs[i]) != row(c.outs[i][:degree+1]) {
					t.Errorf("degree %d of %d, output %d: %s, want %s", degree, c.degree, i, row(outs[i]), row(c.outs[i][:degree+1]))
				}
			}
		}
	})
}

// P8.4, 5: nothing hangs on nodes that are not live, nor on whether the tape is merged; trimmed, a fault's place goes through Trim's list.
func TestTrimmedAndMerged(t *testing.T) {
	t.Parallel()
	d := dice(25)
	less := 0
	for range 1000 {
		x := d.tape(14)
		at, along, degree := d.point(x.Inputs), d.point(x.Inputs), d.degree()
		want, place, e := series.Expand(x, at, along, degree)
		trimmed, to, _ := tape.Trim(x)
		merged, _, _ := tape.Merge(x)
		clean, _, _ := tape.Clean(x)
		if len(merged.Ops) < len(x.Ops) && e == api.OK {
			less++
		}
		for i, y := range []api.Tape{trimmed, merged, clean} {
			got, p, f := series.Expand(y, at, along, degree)
			if rows(got) != rows(want) || f != e || i == 0 && e != api.OK && p != to[place] {
				t.Errorf("tape %d: %s, %d, %d, want %s, %d, %d: %s", i, short(rows(got)), p, f, short(rows(want)), place, e, showTape(x))
			}
		}
	}
	if less < 50 {
		t.Errorf("Merge found something in %d tapes", less)
	}
	// Dead nodes that would be poles, or large.
	x := must(t, "inputs 1; in 0; mul 0 0; out 1")
	y := must(t, "inputs 1; in 0; const 0; pow 1 -1; pow 0 1000; mul 3 3; mul 4 4; div 5 2; mul 0 0; out 7")
	for _, at := range []string{"0", "3", "-5/7"} {
		want, _, _ := series.Expand(x, nums(at), nums("1/2"), 16)
		got, place, e := series.Expand(y, nums(at), nums("1/2"), 16)
		if place != 0 || e != api.OK || rows(got) != rows(want) {
			t.Errorf("at %s: %s, %d, %d, want %s", at, rows(got), place, e, rows(want))
		}
	}
}

// Chapter 7's P7.5, 1: coefficient 1 is the derivative along the direction, and coefficient 2 half the second one; P8.5 tells both.
func TestSwept(t *testing.T) {
	t.Parallel()
	d := dice(26)
	swept := 0
	d.answered(400, func() api.Tape { return d.tape(12) }, func(c expanded) {
		values, firsts, seconds, place, e := series.Along(c.x, c.at, c.along)
		first, _, f := sweep.Forward(c.x, c.at, [][]api.Rat{c.along})
		if e == api.ErrLarge || f == api.ErrLarge {
			return
		}
		if place != 0 || e != api.OK || f != api.OK || len(values) != len(c.outs) {
			t.Fatalf("Along: %d, %d; Forward: %d: %s", place, e, f, showTape(c.x))
		}
		if row(firsts) != row(first[0]) {
			t.Errorf("first: %s, want %s: %s", row(firsts), row(first[0]), showTape(c.x))
		}
		for i := range c.x.Outs {
			w := make([]api.Rat, len(c.x.Outs))
			for j := range w {
				w[j] = num("0")
			}
			w[i] = num("1")
			second, _, e := sweep.Second(c.x, c.at, w, [][]api.Rat{c.along})
			if e != api.OK {
				continue
			}
			swept++
			z := new(big.Rat)
			for j := range c.along {
				z.Add(z, new(big.Rat).Mul(bigOf(c.along[j]).Rat, bigOf(second[0][j]).Rat))
			}
			if show(seconds[i]) != (number{z}).text() {
				t.Errorf("second, output %d: %s, want %s: %s", i, show(seconds[i]), number{z}.text(), showTape(c.x))
			}
		}
	})
	if swept < 400 {
		t.Errorf("second derivatives of %d outputs", swept)
	}
}

// P8.5: Along is Expand with degree 2, at faults too.
func TestAlong(t *testing.T) {
	t.Parallel()
	d := dice(27)
	for range 600 {
		x := d.tape(12)
		at, along := d.point(x.Inputs), d.point(x.Inputs)
		outs, place, e := series.Expand(x, at, along, 2)
		values, firsts, seconds, p, f := series.Along(x, at, along)
		if p != place || f != e || len(values) != len(outs) || len(firsts) != len(outs) || len(seconds) != len(outs) {
			t.Fatalf("Along: %d numbers, %d, %d; Expand: %d lists, %d, %d", len(values), p, f, len(outs), place, e)
		}
		for i, c := range outs {
			twice := new(big.Rat).Add(bigOf(c[2]).Rat, bigOf(c[2]).Rat)
			if show(values[i]) != show(c[0]) || show(firsts[i]) != show(c[1]) || show(seconds[i]) != (number{twice}).text() {
				t.Errorf("output %d: %s, %s, %s, of %s", i, show(values[i]), show(firsts[i]), show(seconds[i]), row(c))
			}
		}
	}
}
