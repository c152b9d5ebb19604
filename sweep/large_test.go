package sweep_test

import (
	"fmt"
	"math/big"
	"testing"

	"slope/api"
	"slope/sweep"
	"slope/tape"
)

// P7.1 to P7.4: a point at which a live node is large: the least one; ahead of poles, behind all other faults.
func TestLargePoint(t *testing.T) {
	x := must(t, "inputs 2; const 0; in 0; in 1; mul 2 2; div 1 0; mul 3 3; out 5; out 4")
	for _, c := range []struct {
		at    []api.Rat
		place int
		e     api.Errno
	}{
		{nums("1 1"), 4, api.ErrPole},
		{[]api.Rat{num("1"), power2(2000)}, 4, api.ErrPole},
		{[]api.Rat{num("1"), power2(2050)}, 5, api.ErrLarge},
		{[]api.Rat{num("1"), power2(4100)}, 3, api.ErrLarge},
		{[]api.Rat{num("1"), power2(8188)}, 3, api.ErrLarge},
		{[]api.Rat{num("1"), power2(8189)}, 2, api.ErrLarge},
		{[]api.Rat{over(power2(8189)), power2(8189)}, 1, api.ErrLarge},
		{[]api.Rat{over(power2(8189)), num("0")}, 1, api.ErrLarge},
	} {
		got := answers(x, c.at, nums("0 1"), nums("1 0"))
		calls := every()
		if c.e == api.ErrPole {
			if n, found, place, e := sweep.Pole(x, c.at); n != c.place || !found || place != 0 || e != api.OK {
				t.Errorf("Pole: %d, %v, %d, %d", n, found, place, e)
			}
			calls = append(calls[:2:2], calls[3:]...)
		}
		wantAll(t, fmt.Sprint("a large node ", c.place), got, c.place, c.e, calls...)
		wantFaults(t, x, c.at, nil, nil)
		wantFaults(t, x, c.at, lists("1 0", "1"), lists("1 0", "1"))
	}
	// What is not live may be as large as it likes, and so may what no live node is moved by.
	x.Outs = []int{1}
	at := []api.Rat{num("1/3"), power2(60000)}
	wantAll(t, "not live", answers(x, at, nums("1"), at), 0, api.OK, every()...)
	d, place, e := sweep.Forward(x, at, [][]api.Rat{at})
	wantRows(t, "Forward", d, place, e, "1/3")
	// An input alone at the edge.
	x = must(t, "inputs 1; in 0; out 0")
	wantAll(t, "at the edge", answers(x, []api.Rat{power2(8188)}, nums("1"), nums("1")), 0, api.OK, "Nodes", "Values", "Pole", "Tangents", "Forward")
	wantAll(t, "above the edge", answers(x, []api.Rat{power2(8189)}, nums("1"), nums("1")), 0, api.ErrLarge, every()...)
	if n, found, _, e := sweep.Pole(must(t, "inputs 1; in 0; pow 0 -1; out 1"), []api.Rat{power2(8189)}); n != 0 || found || e != api.ErrLarge {
		t.Errorf("Pole: %d, %v, %d", n, found, e)
	}
}

// P7.2: large with a direction alone: the first direction that is tells its node.
func TestLargeDirection(t *testing.T) {
	x := must(t, "inputs 2; const 3; in 0; in 1; div 1 0; mul 3 2; out 4")
	at := nums("1 1")
	fine, late, early := nums("1 -7/3"), []api.Rat{power2(8187), num("1")}, []api.Rat{power2(8189), num("1")}
	place := func(v []api.Rat) int {
		n, found, _ := tape.Large(x, at, v)
		if !found {
			return -1
		}
		return n
	}
	if place(fine) != -1 || place(late) != 3 || place(early) != 1 {
		t.Fatalf("%d, %d, %d", place(fine), place(late), place(early))
	}
	w := nums("1")
	for i, c := range []struct {
		along [][]api.Rat
		place int
	}{{[][]api.Rat{late, early}, 3}, {[][]api.Rat{early, late}, 1}, {[][]api.Rat{fine, fine, early}, 1}, {[][]api.Rat{fine, late, fine}, 3}} {
		d, p, e := sweep.Forward(x, at, c.along)
		none(t, fmt.Sprint("Forward, case ", i), x, rows(d), p, e, fault{c.place, api.ErrLarge})
		d, p, e = sweep.Second(x, at, w, c.along)
		none(t, fmt.Sprint("Second, case ", i), x, rows(d), p, e, fault{c.place, api.ErrLarge})
	}
	l, p, e := sweep.Tangents(x, at, late)
	none(t, "Tangents", x, row(l), p, e, fault{3, api.ErrLarge})
	wantAll(t, "no direction", answers(x, at, w, late), 0, api.OK, "Nodes", "Values", "Pole", "Adjoints", "Reverse")
	// ahead of a pole, behind a fault of another direction
	x.Ops[0] = constant("0")
	d, p, e := sweep.Forward(x, at, [][]api.Rat{fine, early})
	none(t, "a pole", x, rows(d), p, e, fault{1, api.ErrLarge})
	d, p, e = sweep.Forward(x, at, [][]api.Rat{early, nums("1")})
	none(t, "a fault", x, rows(d), p, e, fault{1, api.ErrSeeds})
}

// P7.3: large with a list of weights alone: then the place is the number of the tape's nodes, those that are not live too.
func TestLargeWeights(t *testing.T) {
	x := must(t, "inputs 1; const 0; in 0; neg 0; mul 1 1; div 1 2; neg 3; out 3; out 1")
	at := nums("5/3")
	fine, heavy := nums("1/2 -7"), []api.Rat{num("0"), power2(8191)}
	for i, c := range []struct {
		w [][]api.Rat
		f fault
	}{{[][]api.Rat{fine}, fault{}}, {[][]api.Rat{heavy}, fault{6, api.ErrLarge}}, {[][]api.Rat{fine, fine, heavy}, fault{6, api.ErrLarge}}, {[][]api.Rat{heavy, fine}, fault{6, api.ErrLarge}}, {nil, fault{}}} {
		d, p, e := sweep.Reverse(x, at, c.w)
		none(t, fmt.Sprint("Reverse, case ", i), x, rows(d), p, e, c.f)
	}
	wantAll(t, "weights", answers(x, at, heavy, nums("1")), 6, api.ErrLarge, "Adjoints", "Reverse", "Second")
	wantAll(t, "no weights", answers(x, at, heavy, nums("1")), 0, api.OK, "Nodes", "Values", "Pole", "Tangents", "Forward")
	if d, p, e := sweep.Second(x, at, heavy, nil); p != 6 || e != api.ErrLarge || len(d) > 0 {
		t.Errorf("Second of no directions: %d, %d", p, e)
	}
	// A node that is large comes ahead of the sum: first the look without a direction, with the weights, then those along the directions.
	wide := []api.Rat{power2(8189)}
	if d, p, e := sweep.Second(x, at, heavy, [][]api.Rat{wide}); p != 6 || e != api.ErrLarge || len(d) > 0 {
		t.Errorf("Second: a heavy sum and a wide direction: %d, %d", p, e)
	}
	if d, p, e := sweep.Second(x, at, fine, [][]api.Rat{wide}); p != 1 || e != api.ErrLarge || len(d) > 0 {
		t.Errorf("Second: a wide direction: %d, %d", p, e)
	}
	if d, p, e := sweep.Second(x, wide, heavy, nil); p != 1 || e != api.ErrLarge || len(d) > 0 {
		t.Errorf("Second: a wide point: %d, %d", p, e)
	}
	// The sum is large along the second direction alone.
	wide = []api.Rat{power2(4087)}
	n, found, _ := tape.Large(x, at, wide)
	m, sum, _ := tape.LargeSum(x, at, wide, fine)
	if n != 0 || found || m != 6 || !sum {
		t.Fatalf("%d, %v; %d, %v", n, found, m, sum)
	}
	if d, p, e := sweep.Second(x, at, fine, [][]api.Rat{nums("1"), wide}); p != 6 || e != api.ErrLarge || len(d) > 0 {
		t.Errorf("Second: a sum that is large along a direction: %d, %d", p, e)
	}
	d, p, e := sweep.Forward(x, at, [][]api.Rat{nums("1"), wide})
	none(t, "Forward looks at no sum", x, rows(d)[:0], p, e, fault{})
	// ahead of a pole
	x.Outs = []int{3, 4}
	x.Ops[2] = two(api.OpSub, 0, 0)
	wantAll(t, "a pole", answers(x, at, heavy, nums("1")), 6, api.ErrLarge, "Adjoints", "Reverse", "Second")
	wantAll(t, "a pole", answers(x, at, fine, nums("1")), 4, api.ErrPole, "Values", "Forward", "Adjoints", "Reverse", "Second")
}

// bits is a number at random of so many bits above and below.
func (d *dice) bits(num, den int) api.Rat {
	draw := func(bits int) *big.Int {
		z := big.NewInt(1)
		for z.BitLen() < bits {
			z.Lsh(z, 1).Or(z, big.NewInt(int64(d.next(2))))
		}
		return z.SetBit(z, 0, 1)
	}
	r := new(big.Rat).SetFrac(draw(num), draw(den))
	if d.next(2) == 0 {
		r.Neg(r)
	}
	return ratOf(r)
}

// ratOf is one of the library's numbers.
func ratOf(r *big.Rat) api.Rat {
	nat := func(n *big.Int) api.Nat {
		var z api.Nat
		for m := new(big.Int).Abs(n); m.Sign() > 0; m.Rsh(m, 32) {
			z = append(z, uint32(m.Uint64()))
		}
		return z
	}
	return api.Rat{Neg: r.Sign() < 0, Num: nat(r.Num()), Den: nat(r.Denom())}
}

// P7.1 to P7.4, DOC.md's P6: what is not large is answered, up to the greatest weights: tapes that are nearly large, at numbers of many bits.
func TestNearlyLarge(t *testing.T) {
	t.Parallel()
	d := dice(3)
	large, near := 0, 0
	for near < 60 {
		x := d.tape(9)
		if x.Inputs == 0 {
			continue
		}
		size := 20 + d.next(1200)
		many := func(n int) []api.Rat {
			var l []api.Rat
			for range n {
				l = append(l, d.bits(1+d.next(size), 1+d.next(size)))
			}
			return l
		}
		at, w, v := many(x.Inputs), many(len(x.Outs)), many(x.Inputs)
		if d.next(2) == 0 {
			w, v = d.point(len(x.Outs)), d.point(x.Inputs)
		}
		heaviest, sum := weightOf(x, at, v, w)
		if _, found, _ := tape.LargeSum(x, at, v, w); found {
			large++
			wantFaults(t, x, at, [][]api.Rat{w}, [][]api.Rat{v})
			continue
		}
		if max(heaviest, sum) > 5500 && wantPlain(t, x, at, [][]api.Rat{w}, [][]api.Rat{v}) {
			near++
		}
	}
	if large < 60 {
		t.Errorf("%d tapes were large", large)
	}
}

// weightOf is the greatest weight of a live node, and that of the sum.
func weightOf(x api.Tape, at, v, w []api.Rat) (int, int) {
	blend, _ := tape.Blend(x, w)
	trimmed, _, _ := tape.Trim(blend)
	l, _ := tape.Weigh(trimmed, at, v)
	most := 0
	for _, a := range l {
		most = max(most, a.Num, a.Den)
	}
	last := l[len(l)-1]
	return most, max(last.Num, last.Den)
}

// P7.4, DOC.md's P6: second derivatives of a quotient and of powers at the edge of what is not large.
func TestEdgeOfLarge(t *testing.T) {
	t.Parallel()
	d := dice(4)
	for _, text := range []string{
		"inputs 2; in 0; in 1; div 0 1; out 2",
		"inputs 2; in 0; in 1; div 0 1; div 2 0; out 3",
		"inputs 2; in 0; in 1; div 0 1; div 1 2; mul 2 3; out 4",
		"inputs 2; in 0; in 1; mul 0 1; pow 2 -3; out 3",
		"inputs 2; in 0; in 1; add 0 1; div 0 2; sub 3 1; out 4",
		"inputs 1; in 0; pow 0 -1; pow 1 -1; pow 2 2; out 3",
		"inputs 1; in 0; pow 0 40; out 1; out 0",
		"inputs 1; in 0; pow 0 -40; out 1; out 0",
	} {
		x := must(t, text)
		w := d.point(len(x.Outs))
		bits := 0
		var last call
		// The point grows until it is large; the last one that is not is looked at.
		for step := 4096; step > 0; step /= 2 {
			c := call{x: x, w: [][]api.Rat{w}}
			for range x.Inputs {
				c.at = append(c.at, d.bits(bits+step, bits+step-1))
			}
			c.along = [][]api.Rat{d.point(x.Inputs)}
			if plainFault(c).e == api.OK {
				bits += step
				last = c
			}
		}
		if heaviest, sum := weightOf(x, last.at, last.along[0], w); max(heaviest, sum) < 7900 {
			t.Errorf("%s: %d bits weigh %d", text, bits, max(heaviest, sum))
		}
		if !wantPlain(t, x, last.at, last.w, last.along) {
			t.Errorf("%s: not answered", text)
		}
	}
}
