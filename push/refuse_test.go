package push_test

import (
	"math"
	"slices"
	"testing"

	"slope/api"
	"slope/push"
)

// example is x * y and x / y.
func example() api.Tape {
	return api.Tape{Inputs: 2, Ops: []api.Op{in(0), in(1), two(api.OpMul, 0, 1), two(api.OpDiv, 0, 1)}, Outs: []int{2, 3}}
}

// wantAll fails if a call answers anything but this error at this place; upto is right.
func wantAll(t *testing.T, x api.Tape, at, w []api.Rat, place int, e api.Errno) {
	t.Helper()
	wantFault(t, x, at, w, 0, fault{place, e}, fault{place, e})
}

// P14.2, P14.4, P14.5: each of tape.Check's faults, with its place, ahead of all others.
func TestTapeFaults(t *testing.T) {
	good := func() api.Tape {
		return api.Tape{Inputs: 2, Ops: []api.Op{in(0), in(1), constant("2"), two(api.OpDiv, 0, 1), pow(2, 3)}, Outs: []int{3, 4}}
	}
	many := func(n int) []api.Op { return slices.Repeat([]api.Op{in(0)}, n) }
	for _, c := range []struct {
		what  string
		spoil func(x *api.Tape)
		place int
		e     api.Errno
	}{
		{"inputs below 0", func(x *api.Tape) { x.Inputs = -1 }, -1, api.ErrInputs},
		{"the least inputs", func(x *api.Tape) { x.Inputs = math.MinInt }, -1, api.ErrInputs},
		{"too many inputs", func(x *api.Tape) { x.Inputs = 65 }, -1, api.ErrInputs},
		{"too many nodes", func(x *api.Tape) { x.Ops = many(2049) }, -1, api.ErrNodes},
		{"no outputs", func(x *api.Tape) { x.Outs = nil }, -1, api.ErrOutputs},
		{"too many outputs", func(x *api.Tape) { x.Outs = make([]int, 65) }, -1, api.ErrOutputs},
		{"no kind", func(x *api.Tape) { x.Ops[3].Kind = 9 }, 3, api.ErrKind},
		{"kind 0", func(x *api.Tape) { x.Ops[0].Kind = 0 }, 0, api.ErrKind},
		{"unused B", func(x *api.Tape) { x.Ops[4].B = 1 }, 4, api.ErrUnused},
		{"unused C", func(x *api.Tape) { x.Ops[1].C = num("1") }, 1, api.ErrUnused},
		{"no input", func(x *api.Tape) { x.Ops[1].A = 2 }, 1, api.ErrIndex},
		{"no number", func(x *api.Tape) { x.Ops[2].C = api.Rat{Num: api.Nat{2}, Den: api.Nat{2}} }, 2, api.ErrRat},
		{"no earlier node", func(x *api.Tape) { x.Ops[3].B = 3 }, 3, api.ErrOperand},
		{"operand below 0", func(x *api.Tape) { x.Ops[4].A = -1 }, 4, api.ErrOperand},
		{"too great a power", func(x *api.Tape) { x.Ops[4].N = 1025 }, 4, api.ErrPower},
		{"too low a power", func(x *api.Tape) { x.Ops[4].N = -1025 }, 4, api.ErrPower},
		{"no such output", func(x *api.Tape) { x.Outs[1] = 5 }, 6, api.ErrOut},
		{"output below 0", func(x *api.Tape) { x.Outs[0] = -1 }, 5, api.ErrOut},
		{"two faults", func(x *api.Tape) { x.Outs[0], x.Ops[3].B = -1, 7 }, 3, api.ErrOperand},
	} {
		x := good()
		c.spoil(&x)
		bad, f := []api.Rat{{}}, fault{c.place, c.e}
		for _, upto := range []int{0, 3, -1, 9999, math.MinInt, math.MaxInt} {
			for _, l := range [][]api.Rat{nums("1 2"), nums("1 0"), nil, bad, {power2(9000), num("0")}} {
				wantFault(t, x, l, l, upto, f, f)
			}
		}
	}
	wantAll(t, good(), nums("1 2"), nums("1 2"), 0, api.OK)
}

// P14.2, P14.4, P14.5: points of another length, and coordinates that may not be, ahead of all that stands behind.
func TestPointFaults(t *testing.T) {
	x := example()
	uptos := []int{0, 4, 5, -1, math.MaxInt}
	for _, at := range [][]api.Rat{nil, {}, nums("1"), nums("1 2 3"), {{}}, {{}, {}, {}}, nums("1 0 0")} {
		for _, w := range [][]api.Rat{nums("1 2"), nil, nums("1"), {{}, {}}} {
			for _, upto := range uptos {
				wantFault(t, x, at, w, upto, fault{0, api.ErrPoint}, fault{0, api.ErrPoint})
			}
		}
	}
	for _, r := range wrongNumbers() {
		for place, at := range [][]api.Rat{{r, num("1")}, {num("1"), r}} {
			for _, w := range [][]api.Rat{nums("1 2"), nil, {r, r}, nums("1 2 3")} {
				for _, upto := range uptos {
					wantFault(t, x, at, w, upto, fault{place, api.ErrRat}, fault{place, api.ErrRat})
				}
			}
		}
		wantAll(t, x, []api.Rat{r, r}, nums("1 2"), 0, api.ErrRat)
		// the number of an input that no live node is is looked at all the same
		wantAll(t, must(t, "inputs 2; in 0; out 0"), []api.Rat{num("1"), r}, nums("1"), 1, api.ErrRat)
	}
}

// P14.2, P14.4, P14.5: weights of another number, and weights that may not be, with the weight's number.
func TestWeightFaults(t *testing.T) {
	x := example()
	points := [][]api.Rat{nums("6 2"), nums("6 0"), {power2(9000), num("0")}}
	for _, at := range points {
		for _, upto := range []int{0, 4, 5, -1, math.MinInt} {
			for _, w := range [][]api.Rat{nil, {}, nums("1"), nums("1 2 3"), {{}}, {{}, {}, {}}} {
				wantFault(t, x, at, w, upto, fault{0, api.ErrWeights}, fault{0, api.ErrWeights})
			}
			for _, r := range wrongNumbers() {
				wantFault(t, x, at, []api.Rat{r, num("1")}, upto, fault{0, api.ErrRat}, fault{0, api.ErrRat})
				wantFault(t, x, at, []api.Rat{num("0"), r}, upto, fault{1, api.ErrRat}, fault{1, api.ErrRat})
				wantFault(t, x, at, []api.Rat{r, r}, upto, fault{0, api.ErrRat}, fault{0, api.ErrRat})
			}
		}
	}
	x.Outs = []int{3, 2, 0, 1, 2}
	w := nums("1 2 3 4 5")
	w[4] = api.Rat{}
	wantAll(t, x, nums("6 2"), w, 4, api.ErrRat)
}

// P14.2: upto below 0 and above the number of nodes: behind all faults of the lists, ahead of ErrLarge and ErrPole.
func TestUptoFaults(t *testing.T) {
	x := example()
	for _, c := range []struct {
		at     []api.Rat
		others fault
	}{{nums("6 2"), fault{}}, {nums("6 0"), fault{3, api.ErrPole}}, {[]api.Rat{power2(9000), num("0")}, fault{0, api.ErrLarge}}} {
		for _, upto := range []int{-1, -2, 5, 6, 2049, math.MinInt, math.MinInt + 1, math.MaxInt} {
			wantFault(t, x, c.at, nums("1 2"), upto, fault{0, api.ErrArg}, c.others)
		}
		for upto := range 5 {
			wantFault(t, x, c.at, nums("1 2"), upto, c.others, c.others)
		}
	}
}

// P14.2, P14.4, P14.5: the least pole, wherever upto is; of a node that is not live there is none.
func TestPoles(t *testing.T) {
	x := must(t, "inputs 2; in 0; in 1; div 0 1; pow 1 -2; pow 0 -1; mul 3 4; div 5 5; out 6; out 2")
	for _, c := range []struct {
		at    string
		outs  []int
		place int
		e     api.Errno
	}{
		{"3 2", []int{6, 2}, 0, api.OK}, {"3 0", []int{6, 2}, 2, api.ErrPole}, {"0 0", []int{6, 2}, 2, api.ErrPole}, {"0 2", []int{6, 2}, 4, api.ErrPole},
		{"3 0", []int{6, 6}, 3, api.ErrPole}, {"3 0", []int{4, 0}, 0, api.OK}, {"0 0", []int{4, 0}, 4, api.ErrPole}, {"0 0", []int{0, 1}, 0, api.OK}, {"0 2", []int{2, 3}, 0, api.OK},
	} {
		x.Outs = c.outs
		for upto := range len(x.Ops) + 1 {
			for _, w := range []string{"1 2", "0 0"} {
				wantFault(t, x, nums(c.at), nums(w), upto, fault{c.place, c.e}, fault{c.place, c.e})
			}
		}
	}
}

// DOC.md's P1 and P4: no call panics, whatever it is given; faults of several kinds at once are told in the chapter's order.
func TestNoPanic(t *testing.T) {
	t.Parallel()
	odd := []int{math.MinInt, math.MinInt + 1, -1025, -1, 0, 0, 0, 1, 1, 2, 2, 3, 9, 64, 65, 2048, 1 << 40, math.MaxInt}
	numbers := append(wrongNumbers(), nums("0 1 -2/3 5 0 1 -2/3 5 7/2 -1 3 2/9 4 11 -8 1/7 6 2 2 3")...)
	d := dice(18)
	some := func(n int) []api.Rat {
		l := []api.Rat{}
		for range pick(&d, n, n, n, n, d.next(4)) {
			l = append(l, pick(&d, numbers...))
		}
		return l
	}
	met := map[api.Errno]int{}
	for i := range 8000 {
		x := d.tape(6)
		if i%3 == 0 {
			x = d.raw(odd, numbers)
		}
		upto := pick(&d, odd...)
		if i%2 == 0 {
			upto = d.next(len(x.Ops) + 1)
		}
		at, w := some(min(max(x.Inputs, 0), 5)), some(len(x.Outs))
		met[wantFaults(t, x, at, w, upto).e]++
		push.State(x, nil, at, upto)
	}
	for _, e := range []api.Errno{api.OK, api.ErrPole, api.ErrArg, api.ErrRat, api.ErrPoint, api.ErrWeights, api.ErrKind, api.ErrUnused, api.ErrInputs, api.ErrOutputs} {
		if met[e] < 5 {
			t.Errorf("error %d was met %d times", e, met[e])
		}
	}
}

// raw is a tape of odd numbers.
func (d *dice) raw(odd []int, numbers []api.Rat) api.Tape {
	x := api.Tape{Inputs: pick(d, odd...)}
	for range d.next(5) {
		x.Ops = append(x.Ops, api.Op{Kind: api.Kind(pick(d, odd...)), A: pick(d, odd...), B: pick(d, odd...), N: pick(d, odd...), C: pick(d, numbers...)})
	}
	for range d.next(3) {
		x.Outs = append(x.Outs, pick(d, odd...))
	}
	return x
}
