package push_test

import (
	"math/big"
	"testing"

	"slope/api"
	"slope/push"
	"slope/tape"
)

// P14.2, P14.4, P14.5: a point at which a live node is large: the least one, ahead of poles, wherever upto is.
func TestLargePoint(t *testing.T) {
	x := must(t, "inputs 2; const 0; in 0; in 1; mul 2 2; div 1 0; mul 3 3; out 5; out 4")
	for _, c := range []struct {
		at    []api.Rat
		place int
		e     api.Errno
	}{
		{nums("1 1"), 4, api.ErrPole},
		{[]api.Rat{num("1"), power2(2000)}, 4, api.ErrPole},
		{[]api.Rat{num("1"), power2(2050)}, 5, api.ErrLarge},
		{[]api.Rat{num("1"), power2(4100)}, 3, api.ErrLarge},
		{[]api.Rat{num("1"), power2(8188)}, 3, api.ErrLarge},
		{[]api.Rat{num("1"), power2(8189)}, 2, api.ErrLarge},
		{[]api.Rat{over(power2(8189)), power2(8189)}, 1, api.ErrLarge},
		{[]api.Rat{over(power2(8189)), num("0")}, 1, api.ErrLarge},
	} {
		for _, upto := range []int{0, 1, 3, 6} {
			wantFault(t, x, c.at, nums("0 1"), upto, fault{c.place, c.e}, fault{c.place, c.e})
		}
	}
	// What is not live may be as large as it likes.
	x.Outs = []int{1}
	at := []api.Rat{num("1/3"), power2(60000)}
	wantState(t, x, at, nums("7"), 6, "0 7 0 0 0 0 |")
	wantHessian(t, x, at, nums("7"), "2 by 2 |")
	wantGradient(t, x, at, nums("7"), "7 0")
	// Example 5 of the whole, of DOC.md: squared fourteen times.
	x = api.Tape{Inputs: 1, Ops: []api.Op{in(0)}}
	for i := range 14 {
		x.Ops = append(x.Ops, two(api.OpMul, i, i))
	}
	x.Outs = []int{14}
	n, found, _ := tape.Large(x, nums("3"), nil)
	if !found || n < 9 {
		t.Fatalf("Large: %d, %v", n, found)
	}
	wantFault(t, x, nums("3"), nums("1"), 0, fault{n, api.ErrLarge}, fault{n, api.ErrLarge})
	x.Outs = []int{n - 1}
	if !wantPlain(t, x, nums("3"), nums("1")) {
		t.Errorf("squared %d times: refused", n-1)
	}
}

// P14.2, P14.4, P14.5: the sum alone is large: the place is the number of the tape's nodes, those that are not live too.
func TestLargeWeights(t *testing.T) {
	x := must(t, "inputs 1; const 0; in 0; neg 0; mul 1 1; div 1 2; neg 3; out 3; out 1")
	at, heavy := nums("5/3"), []api.Rat{num("0"), power2(8191)}
	for upto := range len(x.Ops) + 1 {
		wantFault(t, x, at, nums("1/2 -7"), upto, fault{}, fault{})
		wantFault(t, x, at, heavy, upto, fault{6, api.ErrLarge}, fault{6, api.ErrLarge})
	}
	wantFault(t, x, at, heavy, 7, fault{0, api.ErrArg}, fault{6, api.ErrLarge})
	// a node that is large comes ahead of the sum, the sum ahead of a pole
	wantAll(t, x, []api.Rat{power2(8189)}, heavy, 1, api.ErrLarge)
	x.Outs = []int{3, 4}
	wantAll(t, x, at, heavy, 6, api.ErrLarge)
	wantAll(t, x, at, nums("1 1"), 4, api.ErrPole)
	// the greatest weight that one output of weight n over d has room for, and the next one
	x = must(t, "inputs 1; in 0; out 0")
	bits := 0
	for !isLarge(x, nums("3"), []api.Rat{power2(bits + 1)}) {
		bits++
	}
	if bits < 8000 {
		t.Fatalf("2^%d is the greatest weight", bits)
	}
	wantGradient(t, x, nums("3"), []api.Rat{power2(bits)}, show(power2(bits)))
	wantAll(t, x, nums("3"), []api.Rat{power2(bits + 1)}, 1, api.ErrLarge)
}

// bits is a number at random of so many bits above and below.
func (d *dice) bits(num, den int) api.Rat {
	draw := func(bits int) *big.Int {
		z := big.NewInt(1)
		for z.BitLen() < bits {
			z.Lsh(z, 1).Or(z, big.NewInt(int64(d.next(2))))
		}
		return z.SetBit(z, 0, 1)
	}
	r := new(big.Rat).SetFrac(draw(num), draw(den))
	if d.next(2) == 0 {
		r.Neg(r)
	}
	return ratOf(r)
}

// weightOf is the greatest weight of a live node or of the sum.
func weightOf(x api.Tape, at, w []api.Rat) int {
	blend, _ := tape.Blend(x, w)
	trimmed, _, _ := tape.Trim(blend)
	l, _ := tape.Weigh(trimmed, at, nil)
	most := 0
	for _, a := range l {
		most = max(most, a.Num, a.Den)
	}
	return most
}

// DOC.md's P6: what is not large is answered, up to the greatest weights, without ErrBig on the way: tapes that are nearly large, at numbers of many bits.
func TestNearlyLarge(t *testing.T) {
	t.Parallel()
	d := dice(3)
	large, near := 0, 0
	for near < 100 {
		x := d.tape(9)
		if x.Inputs == 0 {
			continue
		}
		size := 20 + d.next(1200)
		many := func(n int) []api.Rat {
			var l []api.Rat
			for range n {
				l = append(l, d.bits(1+d.next(size), 1+d.next(size)))
			}
			return l
		}
		at, w := many(x.Inputs), many(len(x.Outs))
		if d.next(2) == 0 {
			w = d.point(len(x.Outs))
		}
		if isLarge(x, at, w) {
			large++
			wantFaults(t, x, at, w, d.next(len(x.Ops)+1))
			continue
		}
		if weightOf(x, at, w) > 5500 && wantPlain(t, x, at, w) {
			near++
		}
	}
	if large < 60 {
		t.Errorf("%d tapes were large", large)
	}
}

// DOC.md's P6: quotients, powers and what hangs on them, at the greatest points that are not large.
func TestEdgeOfLarge(t *testing.T) {
	t.Parallel()
	d := dice(4)
	for _, text := range []string{
		"inputs 2; in 0; in 1; div 0 1; out 2",
		"inputs 2; in 0; in 1; div 0 1; div 2 0; out 3",
		"inputs 2; in 0; in 1; div 0 1; div 1 2; mul 2 3; out 4",
		"inputs 2; in 0; in 1; mul 0 1; pow 2 -3; out 3",
		"inputs 2; in 0; in 1; add 0 1; div 0 2; sub 3 1; out 4",
		"inputs 2; in 0; in 1; div 0 1; add 2 0; pow 3 -1; mul 4 1; out 5; out 2",
		"inputs 2; in 0; in 1; div 0 1; pow 2 2; add 3 0; pow 4 -1; out 5",
		"inputs 1; in 0; pow 0 -1; pow 1 -1; pow 2 2; out 3",
		"inputs 1; in 0; in 0; div 0 1; add 2 0; mul 3 1; out 4",
		"inputs 1; in 0; pow 0 40; out 1; out 0",
		"inputs 1; in 0; pow 0 -40; out 1; out 0",
	} {
		x := must(t, text)
		w := d.point(len(x.Outs))
		bits := 0
		var last []api.Rat
		// The point grows until it is large; the last one that is not is looked at.
		for step := 4096; step > 0; step /= 2 {
			var at []api.Rat
			for range x.Inputs {
				at = append(at, d.bits(bits+step, bits+step-1))
			}
			if plainFault(x, at, w, 0).e == api.OK {
				bits += step
				last = at
			}
		}
		if most := weightOf(x, last, w); most < 7900 {
			t.Errorf("%s: %d bits weigh %d", text, bits, most)
		}
		if !wantPlain(t, x, last, w) {
			t.Errorf("%s: refused", text)
		}
	}
}

// P14.4: long numbers between many nodes of few inputs come to the sums that the sweeps have.
func TestManyNodes(t *testing.T) {
	t.Parallel()
	d := dice(5)
	for range 12 {
		x := api.Tape{Inputs: 4}
		for i := range 24 {
			x.Ops = append(x.Ops, in(i%4))
		}
		for n := 24; n < 60; n++ {
			x.Ops = append(x.Ops, two(pick(&d, api.OpAdd, api.OpSub, api.OpMul, api.OpDiv), d.next(24), n-24))
		}
		last := 24
		for n := 25; n < 60; n += 5 {
			x.Ops = append(x.Ops, two(pick(&d, api.OpAdd, api.OpMul), last, n))
			last = len(x.Ops) - 1
		}
		x.Ops = append(x.Ops, pow(last, pick(&d, -1, 2)))
		x.Outs = []int{len(x.Ops) - 1, 40, 59}
		var at []api.Rat
		for range 4 {
			at = append(at, d.bits(1+d.next(20), 1+d.next(20)))
		}
		if !wantPlain(t, x, at, d.point(3)) {
			_, place, e := push.Gradient(x, at, nums("1 1 1"))
			t.Errorf("refused: place %d, error %d: %s", place, e, showTape(x))
		}
	}
}
