package series_test

import (
	"fmt"
	"math"
	"slices"
	"testing"

	"slope/api"
	"slope/series"
)

// wantFault fails if Expand, or Along, says anything but this; Along looks at no degree.
func wantFault(t *testing.T, what string, x api.Tape, at, along []api.Rat, degree int, f fault) {
	t.Helper()
	if l, place, e := series.Expand(x, at, along, degree); place != f.place || e != f.e || len(l) > 0 {
		t.Errorf("%s: Expand, degree %d: %d lists, %d, %d, want %d, %d", what, degree, len(l), place, e, f.place, f.e)
	}
	if f.e == api.ErrDegree || f.e == api.ErrLarge {
		return
	}
	if a, b, c, place, e := series.Along(x, at, along); place != f.place || e != f.e || len(a)+len(b)+len(c) > 0 {
		t.Errorf("%s: Along: %d, %d, %d numbers, %d, %d, want %d, %d", what, len(a), len(b), len(c), place, e, f.place, f.e)
	}
}

// P8.2, P8.5: each of tape.Check's faults, with its place, ahead of all others.
func TestTapeFaults(t *testing.T) {
	in := func(a int) api.Op { return api.Op{Kind: api.OpInput, A: a} }
	good := func() api.Tape {
		return api.Tape{Inputs: 2, Ops: []api.Op{in(0), in(1), {Kind: api.OpConst, C: num("2")}, {Kind: api.OpDiv, B: 1}, {Kind: api.OpPow, A: 2, N: 3}}, Outs: []int{3, 4}}
	}
	for _, c := range []struct {
		what  string
		spoil func(x *api.Tape)
		place int
		e     api.Errno
	}{
		{"inputs below 0", func(x *api.Tape) { x.Inputs = -1 }, -1, api.ErrInputs},
		{"the least inputs", func(x *api.Tape) { x.Inputs = math.MinInt }, -1, api.ErrInputs},
		{"too many inputs", func(x *api.Tape) { x.Inputs = 65 }, -1, api.ErrInputs},
		{"too many nodes", func(x *api.Tape) { x.Ops = slices.Repeat([]api.Op{in(0)}, 2049) }, -1, api.ErrNodes},
		{"no outputs", func(x *api.Tape) { x.Outs = nil }, -1, api.ErrOutputs},
		{"too many outputs", func(x *api.Tape) { x.Outs = make([]int, 65) }, -1, api.ErrOutputs},
		{"no kind", func(x *api.Tape) { x.Ops[3].Kind = 9 }, 3, api.ErrKind},
		{"kind 0", func(x *api.Tape) { x.Ops[0].Kind = 0 }, 0, api.ErrKind},
		{"unused B", func(x *api.Tape) { x.Ops[4].B = 1 }, 4, api.ErrUnused},
		{"unused C", func(x *api.Tape) { x.Ops[1].C = num("1") }, 1, api.ErrUnused},
		{"no input", func(x *api.Tape) { x.Ops[1].A = 2 }, 1, api.ErrIndex},
		{"no number", func(x *api.Tape) { x.Ops[2].C = api.Rat{Num: api.Nat{2}, Den: api.Nat{2}} }, 2, api.ErrRat},
		{"no earlier node", func(x *api.Tape) { x.Ops[3].B = 3 }, 3, api.ErrOperand},
		{"operand below 0", func(x *api.Tape) { x.Ops[4].A = -1 }, 4, api.ErrOperand},
		{"too great a power", func(x *api.Tape) { x.Ops[4].N = 1025 }, 4, api.ErrPower},
		{"too low a power", func(x *api.Tape) { x.Ops[4].N = -1025 }, 4, api.ErrPower},
		{"no such output", func(x *api.Tape) { x.Outs[1] = 5 }, 6, api.ErrOut},
		{"output below 0", func(x *api.Tape) { x.Outs[0] = -1 }, 5, api.ErrOut},
		{"two faults", func(x *api.Tape) { x.Outs[0], x.Ops[3].B = -1, 7 }, 3, api.ErrOperand},
		{"not live", func(x *api.Tape) { x.Outs = []int{3}; x.Ops[2].C = api.Rat{} }, 2, api.ErrRat},
	} {
		x := good()
		c.spoil(&x)
		bad := []api.Rat{{}}
		f := fault{c.place, c.e}
		for _, degree := range []int{2, -1, 17} {
			wantFault(t, c.what, x, nums("1 2"), nums("1 2"), degree, f)
			wantFault(t, c.what, x, nums("1 0"), nums("1 2"), degree, f)
			wantFault(t, c.what, x, nil, nil, degree, f)
			wantFault(t, c.what, x, bad, bad, degree, f)
		}
	}
	wantPlain(t, good(), nums("1 2"), nums("1 2"), 2)
}

// P8.2, P8.5: points and directions of another length: place 0, ahead of numbers that may not be, of degrees and of poles.
func TestPointFaults(t *testing.T) {
	x := must(t, "inputs 2; in 0; in 1; div 0 1; out 2")
	good := nums("1 0")
	for _, l := range [][]api.Rat{nil, {}, nums("1"), nums("1 2 3"), {{}}, {{}, {}, {}}} {
		for _, degree := range []int{2, -1, 17} {
			f := fault{0, api.ErrPoint}
			wantFault(t, "the point", x, l, good, degree, f)
			wantFault(t, "the direction", x, good, l, degree, f)
			wantFault(t, "both", x, l, l, degree, f)
			wantFault(t, "the direction, and a number", x, []api.Rat{{}, {}}, l, degree, f)
			wantFault(t, "the point, and a number", x, l, []api.Rat{{}, {}}, degree, f)
		}
	}
}

// P8.2, P8.5: coordinates that may not be: the point's ahead of the direction's, each with its place in its list; ahead of degrees, of what is large and of poles.
func TestNumberFaults(t *testing.T) {
	x := must(t, "inputs 3; in 0; in 1; div 0 1; out 2")
	d := dice(9)
	huge := d.bits(65536, 1)
	for i, r := range wrongNumbers() {
		what := fmt.Sprint("number ", i)
		for _, degree := range []int{2, 0, -1, 17} {
			for _, fine := range [][]api.Rat{nums("1 2 3"), nums("1 0 3"), {huge, num("0"), num("1")}} {
				for place := range 3 {
					l := slices.Clone(fine)
					l[place] = r
					f := fault{place, api.ErrRat}
					wantFault(t, what+" of the point", x, l, fine, degree, f)
					wantFault(t, what+" of the direction", x, fine, l, degree, f)
					wantFault(t, what+" of the point, and one ahead in the direction", x, l, []api.Rat{r, r, r}, degree, f)
					// of two in one list the first one tells it
					l[2] = r
					wantFault(t, what+" of the point, and the last one", x, l, fine, degree, f)
				}
			}
		}
		y := must(t, "inputs 2; in 0; out 0")
		wantFault(t, what+" of an input that is at no node", y, []api.Rat{num("1"), r}, nums("1 1"), 1, fault{1, api.ErrRat})
		wantFault(t, what+" of an input that is at no node", y, nums("1 1"), []api.Rat{num("1"), r}, 1, fault{1, api.ErrRat})
	}
}

// P8.2: degrees that may not be, ahead of what is large and of poles; those at the edge.
func TestDegreeFaults(t *testing.T) {
	x := must(t, "inputs 1; in 0; pow 0 -1; out 1; out 0")
	d := dice(10)
	for _, at := range [][]api.Rat{nums("3"), nums("0"), {d.bits(65536, 1)}} {
		for _, degree := range []int{-1, 17, 18, -17, math.MinInt, math.MinInt + 1, math.MaxInt, math.MaxInt - 1, 1 << 32, 1<<32 + 1, -1 << 40} {
			wantFault(t, "degree", x, at, nums("1"), degree, fault{0, api.ErrDegree})
		}
	}
	wantFault(t, "a pole", x, nums("0"), nums("1"), 16, fault{1, api.ErrPole})
	wantFault(t, "large", x, []api.Rat{d.bits(65536, 1)}, nums("1"), 16, fault{0, api.ErrLarge})
	for _, degree := range []int{0, 1, 2, 16} {
		l, place, e := series.Expand(x, nums("1"), nums("1"), degree)
		if place != 0 || e != api.OK || len(l) != 2 || len(l[0]) != degree+1 || len(l[1]) != degree+1 {
			t.Errorf("degree %d: %s, %d, %d", degree, rows(l), place, e)
		}
	}
}

// DOC.md's P1: no call panics, whatever it is given; faults of several kinds at once are told in the chapter's order.
func TestNoPanic(t *testing.T) {
	t.Parallel()
	odd := []int{math.MinInt, math.MinInt + 1, -1025, -1, 0, 0, 0, 1, 1, 2, 2, 3, 9, 16, 17, 64, 65, 2048, 1 << 40, math.MaxInt}
	numbers := append(wrongNumbers(), nums("0 1 -2/3 5 0 1 -2/3 5 7/2 -1 3 2/9 0 1 2 3")...)
	d := dice(14)
	some := func(n int) []api.Rat {
		l := []api.Rat{}
		for range pick(&d, n, n, n, n, d.next(4)) {
			l = append(l, pick(&d, numbers...))
		}
		return l
	}
	met := map[api.Errno]int{}
	for i := range 6000 {
		x := d.tape(6)
		if i%3 == 0 {
			x = d.raw(odd, numbers)
		}
		n := min(max(x.Inputs, 0), 5)
		f := wantPlain(t, x, some(n), some(n), pick(&d, 0, 1, 2, 2, 3, 16, pick(&d, odd...)))
		met[f.e]++
	}
	for _, e := range []api.Errno{api.OK, api.ErrPole, api.ErrRat, api.ErrPoint, api.ErrDegree, api.ErrKind, api.ErrUnused, api.ErrInputs, api.ErrOutputs} {
		if met[e] < 5 {
			t.Errorf("error %d was met %d times", e, met[e])
		}
	}
}

// raw is a tape of odd numbers.
func (d *dice) raw(odd []int, numbers []api.Rat) api.Tape {
	x := api.Tape{Inputs: pick(d, odd...)}
	for range d.next(5) {
		x.Ops = append(x.Ops, api.Op{Kind: api.Kind(pick(d, odd...)), A: pick(d, odd...), B: pick(d, odd...), N: pick(d, odd...), C: pick(d, numbers...)})
	}
	for range d.next(3) {
		x.Outs = append(x.Outs, pick(d, odd...))
	}
	return x
}
