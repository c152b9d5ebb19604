package solve_test

import (
	"fmt"
	"math"
	"math/big"
	"slices"
	"strings"
	"testing"

	"slope/api"
	"slope/solve"
	"slope/tape"
)

// wantWalk fails unless the walk has these points, with commas between them, and this end and node.
func wantWalk(t *testing.T, x api.Tape, at string, steps int, points string, end, node int) {
	t.Helper()
	w, place, e := solve.Newton(x, nums(at), steps)
	if e != api.OK || place != 0 || showRows(w.Points) != points || w.End != end || w.Node != node {
		t.Errorf("%s from %s, %d steps: %s, end %d, node %d, place %d, error %d, want %s, end %d, node %d", showTape(x), at, steps, short(showRows(w.Points)), w.End, w.Node, place, e, short(points), end, node)
	}
	wantPlain(t, walkCall(), held{x: x, at: nums(at), steps: steps}, showTape(x)+" from "+at)
}

// P16.7: the examples, and each end by hand.
func TestNewtonExamples(t *testing.T) {
	root := must(t, "inputs 1; in 0; pow 0 2; const -2; add 1 2; out 3")
	wantWalk(t, root, "1", 3, "1, 3/2, 17/12, 577/408", api.WalkLeft, 0)
	wantWalk(t, root, "1", 0, "1", api.WalkLeft, 0)
	wantWalk(t, root, "1", 1, "1, 3/2", api.WalkLeft, 0)
	square := must(t, "inputs 1; in 0; pow 0 2; out 1")
	wantWalk(t, square, "0", 3, "0", api.WalkFound, 0)
	wantWalk(t, square, "0", 0, "0", api.WalkFound, 0)
	wantWalk(t, square, "0", 32, "0", api.WalkFound, 0)
	wantWalk(t, must(t, "inputs 1; in 0; pow 0 2; const 1; add 1 2; out 3"), "0", 3, "0", api.WalkSingular, 0)
	wantWalk(t, must(t, "inputs 1; in 0; pow 0 -1; out 1"), "0", 3, "0", api.WalkPole, 1)
	// x^2 - 2 * x + 2 from 2: the next point is 1, where the derivative is 0
	bowl := must(t, "inputs 1; in 0; const 2; mul 0 0; mul 0 1; sub 2 3; add 4 1; out 5")
	wantWalk(t, bowl, "2", 9, "2, 1", api.WalkSingular, 0)
	wantWalk(t, bowl, "2", 1, "2, 1", api.WalkLeft, 0)
	// x + 0 / x from 5: the next point is 0, a pole
	wantWalk(t, must(t, "inputs 1; const 0; in 0; div 0 1; add 1 2; pow 0 -1; out 3"), "5", 9, "5, 0", api.WalkPole, 2)
	// x * y - 6 and x - y - 1 from (4, 1): two inputs, at last (3, 2)
	two := must(t, "inputs 2; in 0; in 1; mul 0 1; const 6; sub 2 3; sub 0 1; const 1; sub 5 6; out 4; out 7")
	wantWalk(t, two, "4 1", 1, "4 1, 14/5 9/5", api.WalkLeft, 0)
	wantWalk(t, two, "3 2", 5, "3 2", api.WalkFound, 0)
	wantWalk(t, two, "-2 -3", 5, "-2 -3", api.WalkFound, 0)
	// outputs in another order than the inputs
	wantWalk(t, must(t, "inputs 2; in 0; in 1; const 3; sub 1 2; const 5; sub 0 4; out 3; out 5"), "7/2 -9", 4, "7/2 -9, 5 3", api.WalkFound, 0)
}

// P16.7: as many steps as MaxSteps.
func TestMaxSteps(t *testing.T) {
	// x^2 from 1: each step halves.
	square := must(t, "inputs 1; in 0; pow 0 2; out 1")
	var points []string
	for k := range 33 {
		points = append(points, new(big.Rat).Inv(twoTo(k, 0)).RatString())
	}
	wantWalk(t, square, "1", 32, strings.Join(points, ", "), api.WalkLeft, 0)
	wantWalk(t, square, "1", 31, strings.Join(points[:32], ", "), api.WalkLeft, 0)
	// The tape becomes large ahead of it.
	root := must(t, "inputs 1; in 0; pow 0 2; const -2; add 1 2; out 3")
	w, _, e := solve.Newton(root, nums("1"), 32)
	if e != api.OK || w.End != api.WalkLarge || len(w.Points) < 10 || len(w.Points) > 20 {
		t.Errorf("%d points, end %d, error %d", len(w.Points), w.End, e)
	}
	wantPlain(t, walkCall(), held{x: root, at: nums("1"), steps: 32}, "a root")
}

// P16.7: large by a node, by the sum alone; ahead of a pole, of found and of left.
func TestLargeByTape(t *testing.T) {
	up := must(t, "inputs 1; in 0; pow 0 1024; out 1")
	wantWalk(t, up, "1000", 3, "1000", api.WalkLarge, 1)
	wantWalk(t, up, "1000", 0, "1000", api.WalkLarge, 1)
	// 0 at a point of many bits: the sum is large, and so it isn't found
	x := must(t, "inputs 2; in 0; in 1; sub 0 0; sub 1 1; out 2; out 3")
	for _, c := range []struct {
		power, end, node int
	}{{99, api.WalkFound, 0}, {8100, api.WalkFound, 0}, {8180, api.WalkLarge, 4}, {8184, api.WalkLarge, 4}, {8185, api.WalkLarge, 2}, {8188, api.WalkLarge, 2}, {8189, api.WalkLarge, 0}} {
		a := wantPlain(t, walkCall(), held{x: x, at: []api.Rat{power2(c.power), num("1")}, steps: 2}, fmt.Sprint("2^", c.power))
		if a.walk.End != c.end || a.walk.Node != c.node {
			t.Errorf("2^%d: end %d, node %d, want %d, %d", c.power, a.walk.End, a.walk.Node, c.end, c.node)
		}
	}
	// a pole behind, at node 2
	pole := must(t, "inputs 1; const 0; in 0; div 1 0; out 2")
	wantWalk(t, pole, "7", 1, "7", api.WalkPole, 2)
	a := wantPlain(t, walkCall(), held{x: pole, at: []api.Rat{power2(9000)}, steps: 1}, "large and a pole")
	if a.walk.End != api.WalkLarge || a.walk.Node != 1 {
		t.Errorf("large and a pole: end %d, node %d", a.walk.End, a.walk.Node)
	}
}

// scaled is the tape of c_i * x_i - 1, of so many inputs, with a constant of just so many bits for each.
func scaled(bits ...int) api.Tape {
	x := api.Tape{Inputs: len(bits)}
	for i, n := range bits {
		k := len(x.Ops)
		x.Ops = append(x.Ops, in(i), constant(ratOf(twoTo(n-1, 1))), two(api.OpMul, k, k+1), constant(num("1")), two(api.OpSub, k+2, k+3))
		x.Outs = append(x.Outs, k+4)
	}
	return x
}

// P16.7: the system is large, at MaxSolve just and one above it: ahead of singular, behind left.
func TestLargeBySystem(t *testing.T) {
	// Of each row: 1 and 1 bits of Dens, the constant's bits, 7.
	each := (api.MaxSolve - 5*9) / 5
	rest := (api.MaxSolve - 5*9) % 5
	for more := range 3 {
		x := scaled(each, each, each, each, each+rest+more-1)
		h := held{x: x, at: nums("0 0 0 0 0"), steps: 3}
		a := wantPlain(t, walkCall(), h, fmt.Sprint("MaxSolve and ", more-1))
		// A step is made; at the next point, 1 over the constants, the first product is large.
		end, node, points := api.WalkLarge, 2, 2
		if more == 2 {
			node, points = len(x.Ops)+1, 1
		}
		if a.walk.End != end || a.walk.Node != node || len(a.walk.Points) != points {
			t.Errorf("MaxSolve and %d: %d points, end %d, node %d", more-1, len(a.walk.Points), a.walk.End, a.walk.Node)
		}
		h.steps = 0
		if a := wantPlain(t, walkCall(), h, "no steps"); a.walk.End != api.WalkLeft {
			t.Errorf("no steps: end %d", a.walk.End)
		}
	}
	// Two rows alike: singular, if it is not large.
	for _, c := range []struct{ bits, end, node int }{{6000, api.WalkSingular, 0}, {7000, api.WalkLarge, 26}} {
		x := scaled(c.bits, c.bits, c.bits, c.bits, c.bits)
		x.Outs[4] = x.Outs[3]
		a := wantPlain(t, walkCall(), held{x: x, at: nums("0 0 0 0 0"), steps: 3}, "two rows alike")
		if a.walk.End != c.end || a.walk.Node != c.node {
			t.Errorf("%d bits: end %d, node %d", c.bits, a.walk.End, a.walk.Node)
		}
	}
}

// P16.7, P16.8: an input that nothing hangs on makes the determinant 0, however large its number is.
func TestInputNotUsed(t *testing.T) {
	x := must(t, "inputs 2; in 0; in 1; mul 0 0; mul 1 1; const 3; sub 2 4; out 5; out 0")
	wantWalk(t, x, "2 7", 3, "2 7", api.WalkSingular, 0)
	wantWalk(t, x, "2 7", 0, "2 7", api.WalkLeft, 0)
	h := held{x: x, at: []api.Rat{num("2"), power2(65535)}, steps: 3}
	if a := wantPlain(t, walkCall(), h, "a large number"); a.walk.End != api.WalkSingular {
		t.Errorf("end %d", a.walk.End)
	}
	// What is 0 throughout is found all the same.
	x = must(t, "inputs 2; in 0; in 1; sub 0 0; out 2; out 0")
	wantWalk(t, x, "0 5/7", 3, "0 5/7", api.WalkFound, 0)
	wantWalk(t, x, "1 5/7", 3, "1 5/7", api.WalkSingular, 0)
}

// linear is the tape of a matrix times the inputs, less numbers.
func linear(g grid, b []*big.Rat) api.Tape {
	x := api.Tape{Inputs: g.width}
	put := func(op api.Op) int {
		x.Ops = append(x.Ops, op)
		return len(x.Ops) - 1
	}
	for c := range g.width {
		put(in(c))
	}
	for r, l := range g.at {
		sum := put(constant(ratOf(new(big.Rat).Neg(b[r]))))
		for c, v := range l {
			if v != nil {
				sum = put(two(api.OpAdd, sum, put(two(api.OpMul, put(constant(ratOf(v))), c))))
			}
		}
		x.Outs = append(x.Outs, sum)
	}
	return x
}

// P16.9: a linear tape is solved in one step: the solution is Solve's.
func TestLinear(t *testing.T) {
	t.Parallel()
	d := dice(71)
	found, singular := 0, 0
	for i := range 400 {
		n := 1 + d.next(6)
		f := pick(&d, d.number, d.little)
		g := d.grid(n, n, pick(&d, 60, 100), f)
		b, at := d.numbers(n, f), ratsOf(d.numbers(n, f))
		if i%40 == 0 {
			b = timesCol(g.full(), bigsOf(at))
		}
		x := linear(g, b)
		a := wantPlain(t, walkCall(), held{x: x, at: at, steps: 2}, showTape(x))
		det, _ := solve.Determinant(g.matrix())
		want, _, e := solve.Solve(g.matrix(), ratsOf(b))
		isThere := showRow(ratsOf(timesCol(g.full(), bigsOf(at)))) == showRow(ratsOf(b))
		switch {
		case isThere:
			if a.walk.End != api.WalkFound || len(a.walk.Points) != 1 {
				t.Fatalf("%s: there already: %s", g.text(), a.text())
			}
		case len(det.Num) == 0:
			singular++
			if a.walk.End != api.WalkSingular || len(a.walk.Points) != 1 {
				t.Fatalf("%s: singular: %s", g.text(), a.text())
			}
		default:
			if e != api.OK || len(a.walk.Points) != 2 || showRow(a.walk.Points[1]) != showRow(want) {
				t.Fatalf("%s: %s, want %s", g.text(), a.text(), showRow(want))
			}
			// At the solution the tape may be large.
			if _, large, _ := tape.LargeSum(x, want, nil, slices.Repeat(nums("1"), n)); large != (a.walk.End == api.WalkLarge) || !large && a.walk.End != api.WalkFound {
				t.Fatalf("%s: end %d, large: %v", g.text(), a.walk.End, large)
			} else if !large {
				found++
			}
		}
	}
	if found < 150 || singular < 20 {
		t.Errorf("%d were found, %d singular", found, singular)
	}
}

// P16.7: as many inputs and outputs as there may be.
func TestWideTapes(t *testing.T) {
	t.Parallel()
	d := dice(73)
	// Three numbers a row.
	band := gridBy(64, 64, func(r, c int) *big.Rat {
		if c < r-1 || c > r+1 {
			return nil
		}
		return big.NewRat(int64(3+d.next(5)-4*(r-c)*(r-c)), 1)
	})
	b := d.numbers(64, d.little)
	x := linear(band, b)
	a := wantPlain(t, walkCall(), held{x: x, at: make64(), steps: 4}, "a band")
	want, _, _ := solve.Solve(band.matrix(), ratsOf(b))
	if a.walk.End != api.WalkFound || len(a.walk.Points) != 2 || showRow(a.walk.Points[1]) != showRow(want) {
		t.Errorf("a band: %d points, end %d", len(a.walk.Points), a.walk.End)
	}
	// x_i^2 - x_(i+1), round in a circle.
	x = api.Tape{Inputs: 64}
	for i := range 64 {
		x.Ops = append(x.Ops, in(i))
	}
	for i := range 64 {
		x.Ops = append(x.Ops, pow(i, 2), two(api.OpSub, len(x.Ops), (i+1)%64))
		x.Outs = append(x.Outs, len(x.Ops)-1)
	}
	at := slices.Repeat(nums("3"), 64)
	if a := wantPlain(t, walkCall(), held{x: x, at: at, steps: 3}, "a circle"); a.walk.End != api.WalkLeft || showRow(a.walk.Points[1][:1]) != "9/5" {
		t.Errorf("a circle: end %d, %s", a.walk.End, showRow(a.walk.Points[1]))
	}
	at = ratsOf(d.numbers(64, d.little))
	wantPlain(t, walkCall(), held{x: x, at: at, steps: 1}, "a circle from many numbers")
}

// P16.8: points near the bounds: steps of four times as many bits as a node has room for.
func TestNewtonNearBounds(t *testing.T) {
	t.Parallel()
	d := dice(79)
	most := 0
	for i := range 12 {
		n := 1 + i%4
		room := min(8000, api.MaxSolve/n-40)
		at := d.numbers(n, func() *big.Rat {
			return pick(&d, big.NewRat(5, 3), d.ratioBits(room/8, room/16), d.wholeBits(room/4))
		})
		g := gridBy(n, n, func(_, _ int) *big.Rat { return d.wholeBits(room / 2) })
		b := d.numbers(n, func() *big.Rat { return d.wholeBits(room / 2) })
		if i >= 4 && i < 8 {
			at = d.numbers(n, d.little)
			g = gridBy(n, n, func(_, _ int) *big.Rat { return d.wholeBits(room - 30) })
		}
		x := linear(g, b)
		a := wantPlain(t, walkCall(), held{x: x, at: ratsOf(at), steps: 3}, fmt.Sprint(n, " inputs"))
		for _, l := range a.walk.Points {
			for _, r := range l {
				most = max(most, bits(r.Num), bits(r.Den))
			}
		}
	}
	if most < 30000 || most > 8192+32768+1 {
		t.Errorf("the greatest number has %d bits", most)
	}
}

// tape is one at random: with as many outputs as inputs, mostly.
func (d *dice) tape(most int) api.Tape {
	x := api.Tape{Inputs: pick(d, 1, 1, 2, 2, 3)}
	for i := range x.Inputs {
		x.Ops = append(x.Ops, in(i))
	}
	for n := x.Inputs + d.next(most); len(x.Ops) < n; {
		x.Ops = append(x.Ops, d.op(x.Inputs, len(x.Ops)))
	}
	outs := x.Inputs
	if d.next(30) == 0 {
		outs = 1 + d.next(3)
	}
	for range outs {
		// mostly late nodes, which hang on many
		x.Outs = append(x.Outs, len(x.Ops)-1-d.next(pick(d, min(4, len(x.Ops)), len(x.Ops))))
	}
	return x
}

// op is a node at random behind so many others.
func (d *dice) op(inputs, ahead int) api.Op {
	late := func() int { return ahead - 1 - d.next(pick(d, min(3, ahead), ahead)) }
	switch kind := api.Kind(1 + d.next(8)); kind {
	case api.OpInput:
		return in(d.next(inputs))
	case api.OpConst:
		return constant(num(pick(d, "0", "1", "-1", "2", "2/3", "-3/2", "7")))
	case api.OpNeg:
		return neg(late())
	case api.OpPow:
		return pow(late(), pick(d, -2, -1, 0, 1, 2, 2, 3))
	default:
		return two(kind, late(), late())
	}
}

// P16.7: walks of tapes at random against plain ones; every end is met.
func TestRandomWalks(t *testing.T) {
	t.Parallel()
	d := dice(83)
	ends, long := map[int]int{}, 0
	for range 6000 {
		x := d.tape(9)
		at := ratsOf(d.numbers(x.Inputs, d.little))
		if d.next(3) == 0 {
			at = ratsOf(d.numbers(x.Inputs, d.number))
		}
		h := held{x: x, at: at, steps: pick(&d, 0, 1, 2, 3, 4, 5)}
		a := wantPlain(t, walkCall(), h, showTape(x)+" from "+showRow(at))
		ends[a.walk.End]++
		if len(a.walk.Points) > 2 {
			long++
		}
	}
	for _, end := range []int{api.WalkFound, api.WalkLeft, api.WalkSingular, api.WalkPole} {
		if ends[end] < 200 {
			t.Errorf("end %d was met %d times", end, ends[end])
		}
	}
	if long < 200 {
		t.Errorf("%d walks have three points or more", long)
	}
}

// P16.7: errors with their places: what tape.Check refuses ahead of the point, that ahead of its numbers, these ahead of steps, those ahead of the outputs.
func TestNewtonFaults(t *testing.T) {
	t.Parallel()
	good := func() api.Tape {
		return must(t, "inputs 2; in 0; in 1; const 2; div 0 1; pow 2 3; out 3; out 4")
	}
	points := [][]api.Rat{nums("1 2"), nums("1"), nil, {{}}, {num("1"), {}}}
	steps := []int{0, 32, -1, 33, math.MinInt, math.MaxInt}
	want := func(what string, h held, place int, e api.Errno) {
		t.Helper()
		if a := walkCall().do(h); a.e != e || a.n != place || !a.isNothing() {
			t.Errorf("%s: %s, want place %d, error %d", what, a.text(), place, e)
		}
		wantPlain(t, walkCall(), h, what)
	}
	for _, c := range []struct {
		what  string
		spoil func(x *api.Tape)
		place int
		e     api.Errno
	}{
		{"inputs below 0", func(x *api.Tape) { x.Inputs = -1 }, -1, api.ErrInputs},
		{"too many inputs", func(x *api.Tape) { x.Inputs = 65 }, -1, api.ErrInputs},
		{"too many nodes", func(x *api.Tape) { x.Ops = slices.Repeat([]api.Op{in(0)}, 2049) }, -1, api.ErrNodes},
		{"no outputs", func(x *api.Tape) { x.Outs = nil }, -1, api.ErrOutputs},
		{"too many outputs", func(x *api.Tape) { x.Outs = make([]int, 65) }, -1, api.ErrOutputs},
		{"no kind", func(x *api.Tape) { x.Ops[3].Kind = 9 }, 3, api.ErrKind},
		{"unused C", func(x *api.Tape) { x.Ops[1].C = num("1") }, 1, api.ErrUnused},
		{"no input", func(x *api.Tape) { x.Ops[1].A = 2 }, 1, api.ErrIndex},
		{"no number", func(x *api.Tape) { x.Ops[2].C = api.Rat{Num: api.Nat{2}, Den: api.Nat{2}} }, 2, api.ErrRat},
		{"no earlier node", func(x *api.Tape) { x.Ops[3].B = 3 }, 3, api.ErrOperand},
		{"too great a power", func(x *api.Tape) { x.Ops[4].N = 1025 }, 4, api.ErrPower},
		{"no such output", func(x *api.Tape) { x.Outs[1] = 5 }, 6, api.ErrOut},
	} {
		x := good()
		c.spoil(&x)
		for _, at := range points {
			for _, n := range steps {
				want(c.what, held{x: x, at: at, steps: n}, c.place, c.e)
			}
		}
	}
	other := good()
	other.Outs = []int{3}
	more := good()
	more.Outs = []int{3, 4, 0}
	for _, x := range []api.Tape{good(), other, more} {
		for _, n := range steps {
			for _, at := range [][]api.Rat{nil, nums("1"), nums("1 2 3"), {{}}, {{}, {}, {}}} {
				want("another length", held{x: x, at: at, steps: n}, 0, api.ErrPoint)
			}
			for _, r := range wrongNumbers() {
				want("the first number", held{x: x, at: []api.Rat{r, num("0")}, steps: n}, 0, api.ErrRat)
				want("the second number", held{x: x, at: []api.Rat{num("0"), r}, steps: n}, 1, api.ErrRat)
				want("both", held{x: x, at: []api.Rat{r, r}, steps: n}, 0, api.ErrRat)
			}
		}
		// steps ahead of the outputs' number, of ErrLarge and of poles
		for _, at := range [][]api.Rat{nums("1 2"), nums("1 0"), {power2(60000), num("0")}} {
			for _, n := range []int{-1, 33, 34, -32, math.MinInt, math.MaxInt} {
				want("steps", held{x: x, at: at, steps: n}, 0, api.ErrArg)
			}
			for _, n := range []int{0, 1, 32} {
				if len(x.Outs) != 2 {
					want("outputs", held{x: x, at: at, steps: n}, 0, api.ErrShape)
				}
			}
		}
	}
	// No inputs: there is always an output more.
	want("no inputs", held{x: must(t, "inputs 0; const 0; out 0")}, 0, api.ErrShape)
	want("no inputs", held{x: must(t, "inputs 0; const 0; out 0"), steps: 33}, 0, api.ErrArg)
	want("no inputs", held{x: must(t, "inputs 0; const 0; out 0"), at: nums("1")}, 0, api.ErrPoint)
}

// DOC.md's P1: Newton doesn't panic, whatever it is given, and tells the first fault.
func TestNewtonNoPanic(t *testing.T) {
	t.Parallel()
	odd := []int{math.MinInt, -1025, -1, 0, 0, 0, 1, 1, 2, 2, 3, 9, 32, 33, 64, 65, math.MaxInt}
	numbers := append(wrongNumbers(), nums("0 1 -2/3 5 0 1 -2/3 5 7/2 -1 3 2/9 4 11 -8 1/7 6 2 2 3")...)
	d := dice(89)
	met := map[api.Errno]int{}
	for i := range 8000 {
		x := d.tape(6)
		if i%4 == 0 {
			x = d.rawTape(odd, numbers)
		}
		h := held{x: x, steps: pick(&d, 0, 1, 2, pick(&d, odd...))}
		for range pick(&d, min(max(x.Inputs, 0), 5), d.next(4)) {
			h.at = append(h.at, pick(&d, numbers...))
		}
		if i%2 == 0 {
			h.at = ratsOf(d.numbers(min(max(x.Inputs, 0), 70), d.little))
		}
		met[wantPlain(t, walkCall(), h, fmt.Sprint(showTape(x), " from ", showRow(h.at), ", ", h.steps, " steps")).e]++
	}
	for _, e := range []api.Errno{api.OK, api.ErrPoint, api.ErrRat, api.ErrArg, api.ErrShape, api.ErrInputs, api.ErrOutputs, api.ErrKind} {
		if met[e] < 20 {
			t.Errorf("error %d was met %d times", e, met[e])
		}
	}
}

// rawTape is a tape of odd numbers.
func (d *dice) rawTape(odd []int, numbers []api.Rat) api.Tape {
	x := api.Tape{Inputs: pick(d, odd...)}
	for range d.next(5) {
		x.Ops = append(x.Ops, api.Op{Kind: api.Kind(pick(d, odd...)), A: pick(d, odd...), B: pick(d, odd...), N: pick(d, odd...), C: pick(d, numbers...)})
	}
	for range d.next(3) {
		x.Outs = append(x.Outs, pick(d, odd...))
	}
	return x
}

// P16.7: what a step goes by is Solve's answer to the matrix of the derivatives that are not 0.
func TestStepsBySolve(t *testing.T) {
	t.Parallel()
	d := dice(97)
	steps := 0
	for range 800 {
		x := d.tape(8)
		if len(x.Outs) != x.Inputs {
			continue
		}
		w, _, _ := solve.Newton(x, ratsOf(d.numbers(x.Inputs, d.number)), 3)
		for k := 1; k < len(w.Points); k++ {
			outs, _, _ := duals(x, bigsOf(w.Points[k-1]))
			g := gridBy(x.Inputs, x.Inputs, func(r, c int) *big.Rat {
				if outs[r].d[c].Sign() == 0 {
					return nil
				}
				return outs[r].d[c]
			})
			var f []*big.Rat
			for _, z := range outs {
				f = append(f, z.v)
			}
			y, _, e := solve.Solve(g.matrix(), ratsOf(f))
			for i := range y {
				if new(big.Rat).Sub(bigOf(w.Points[k-1][i]), bigOf(y[i])).Cmp(bigOf(w.Points[k][i])) != 0 || e != api.OK {
					t.Fatalf("%s: step %d of %s", showTape(x), k, showRows(w.Points))
				}
			}
			steps++
		}
	}
	if steps < 200 {
		t.Errorf("%d steps", steps)
	}
}
