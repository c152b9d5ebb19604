package sweep_test

import (
	"fmt"
	"math"
	"slices"
	"testing"

	"slope/api"
	"slope/sweep"
)

// answers are what all calls say of a tape at a point with one list of weights and one direction: of each its name, whether there is anything beside the error, and the fault.
func answers(x api.Tape, at, w, along []api.Rat) map[string]string {
	z := map[string]string{}
	put := func(name string, got bool, place int, e api.Errno) {
		z[name] = fmt.Sprint(got && e != api.OK, place, e)
	}
	l, place, e := sweep.Nodes(x, at)
	put("Nodes", len(l) > 0, place, e)
	l, place, e = sweep.Values(x, at)
	put("Values", len(l) > 0, place, e)
	n, found, place, e := sweep.Pole(x, at)
	put("Pole", n != 0 || found, place, e)
	l, place, e = sweep.Tangents(x, at, along)
	put("Tangents", len(l) > 0, place, e)
	d, place, e := sweep.Forward(x, at, [][]api.Rat{along})
	put("Forward", len(d) > 0, place, e)
	l, place, e = sweep.Adjoints(x, at, w)
	put("Adjoints", len(l) > 0, place, e)
	d, place, e = sweep.Reverse(x, at, [][]api.Rat{w})
	put("Reverse", len(d) > 0, place, e)
	d, place, e = sweep.Second(x, at, w, [][]api.Rat{along})
	put("Second", len(d) > 0, place, e)
	return z
}

// wantAll fails if one of these calls says anything but this error at this place.
func wantAll(t *testing.T, what string, got map[string]string, place int, e api.Errno, calls ...string) {
	t.Helper()
	for _, name := range calls {
		if want := fmt.Sprint(false, place, e); got[name] != want {
			t.Errorf("%s: %s: %s, want %s", what, name, got[name], want)
		}
	}
}

// every is the names of all calls.
func every() []string {
	return []string{"Nodes", "Values", "Pole", "Tangents", "Forward", "Adjoints", "Reverse", "Second"}
}

// P7.1 to P7.4: each of tape.Check's faults, with its place, ahead of all others.
func TestTapeFaults(t *testing.T) {
	good := func() api.Tape {
		return api.Tape{Inputs: 2, Ops: []api.Op{in(0), in(1), constant("2"), two(api.OpDiv, 0, 1), pow(2, 3)}, Outs: []int{3, 4}}
	}
	many := func(n int) []api.Op { return slices.Repeat([]api.Op{in(0)}, n) }
	for _, c := range []struct {
		what  string
		spoil func(x *api.Tape)
		place int
		e     api.Errno
	}{
		{"inputs below 0", func(x *api.Tape) { x.Inputs = -1 }, -1, api.ErrInputs},
		{"the least inputs", func(x *api.Tape) { x.Inputs = math.MinInt }, -1, api.ErrInputs},
		{"too many inputs", func(x *api.Tape) { x.Inputs = 65 }, -1, api.ErrInputs},
		{"too many nodes", func(x *api.Tape) { x.Ops = many(2049) }, -1, api.ErrNodes},
		{"no outputs", func(x *api.Tape) { x.Outs = nil }, -1, api.ErrOutputs},
		{"too many outputs", func(x *api.Tape) { x.Outs = make([]int, 65) }, -1, api.ErrOutputs},
		{"no kind", func(x *api.Tape) { x.Ops[3].Kind = 9 }, 3, api.ErrKind},
		{"kind 0", func(x *api.Tape) { x.Ops[0].Kind = 0 }, 0, api.ErrKind},
		{"unused B", func(x *api.Tape) { x.Ops[4].B = 1 }, 4, api.ErrUnused},
		{"unused C", func(x *api.Tape) { x.Ops[1].C = num("1") }, 1, api.ErrUnused},
		{"no input", func(x *api.Tape) { x.Ops[1].A = 2 }, 1, api.ErrIndex},
		{"no number", func(x *api.Tape) { x.Ops[2].C = api.Rat{Num: api.Nat{2}, Den: api.Nat{2}} }, 2, api.ErrRat},
		{"no earlier node", func(x *api.Tape) { x.Ops[3].B = 3 }, 3, api.ErrOperand},
		{"operand below 0", func(x *api.Tape) { x.Ops[4].A = -1 }, 4, api.ErrOperand},
		{"too great a power", func(x *api.Tape) { x.Ops[4].N = 1025 }, 4, api.ErrPower},
		{"too low a power", func(x *api.Tape) { x.Ops[4].N = -1025 }, 4, api.ErrPower},
		{"no such output", func(x *api.Tape) { x.Outs[1] = 5 }, 6, api.ErrOut},
		{"output below 0", func(x *api.Tape) { x.Outs[0] = -1 }, 5, api.ErrOut},
		{"two faults", func(x *api.Tape) { x.Outs[0], x.Ops[3].B = -1, 7 }, 3, api.ErrOperand},
	} {
		x := good()
		c.spoil(&x)
		bad := []api.Rat{{}}
		wantAll(t, c.what, answers(x, nums("1 2"), nums("1 2"), nums("1 2")), c.place, c.e, every()...)
		wantAll(t, c.what, answers(x, nil, nil, nil), c.place, c.e, every()...)
		wantAll(t, c.what, answers(x, bad, bad, bad), c.place, c.e, every()...)
		if d, place, e := sweep.Forward(x, bad, make([][]api.Rat, 65)); place != c.place || e != c.e || len(d) > 0 {
			t.Errorf("%s: Forward: %d, %d", c.what, place, e)
		}
		if d, place, e := sweep.Reverse(x, bad, make([][]api.Rat, 65)); place != c.place || e != c.e || len(d) > 0 {
			t.Errorf("%s: Reverse: %d, %d", c.what, place, e)
		}
	}
	wantAll(t, "all may be", answers(good(), nums("1 2"), nums("1 2"), nums("1 2")), 0, api.OK, every()...)
}

// P7.1 to P7.4: points of another length, and coordinates that may not be.
func TestPointFaults(t *testing.T) {
	x := example()
	w := nums("1 2")
	for _, at := range [][]api.Rat{nil, {}, nums("1"), nums("1 2 3"), {{}}, {{}, {}, {}}, nums("1 0 0")} {
		// faults of lists stand behind it, and so does a pole
		wantAll(t, "another length", answers(x, at, w, nums("1 2")), 0, api.ErrPoint, every()...)
		wantAll(t, "another length, no lists", answers(x, at, nil, nil), 0, api.ErrPoint, every()...)
	}
	for i, r := range wrongNumbers() {
		for place, at := range [][]api.Rat{{r, num("1")}, {num("1"), r}} {
			for _, l := range [][]api.Rat{nums("1 2"), nil, {r, r}, nums("1 2 3")} {
				wantAll(t, fmt.Sprint("number ", i), answers(x, at, l, l), place, api.ErrRat, every()...)
			}
			if _, p, e := sweep.Forward(x, at, make([][]api.Rat, 65)); p != place || e != api.ErrRat {
				t.Errorf("number %d: Forward: %d, %d", i, p, e)
			}
		}
		wantAll(t, fmt.Sprint("both, number ", i), answers(x, []api.Rat{r, r}, w, w), 0, api.ErrRat, every()...)
		// the number of an input that no live node is is looked at all the same
		wantAll(t, "not live", answers(must(t, "inputs 2; in 0; out 0"), []api.Rat{num("1"), r}, nums("1"), w), 1, api.ErrRat, every()...)
	}
}

// P7.2 to P7.4: lists of another length and with numbers that may not be: the place is the list's number; the first list that has a fault tells it.
func TestListFaults(t *testing.T) {
	x, at := example(), nums("6 2")
	good, short, long := nums("1 2"), nums("1"), nums("1 2 3")
	for i, r := range wrongNumbers() {
		ahead, behind := []api.Rat{r, num("1")}, []api.Rat{num("1"), r}
		for j, c := range []struct {
			lists [][]api.Rat
			place int
			len   bool // it is the length
		}{
			{[][]api.Rat{short}, 0, true}, {[][]api.Rat{nil}, 0, true}, {[][]api.Rat{{}}, 0, true}, {[][]api.Rat{long}, 0, true}, {[][]api.Rat{good, long}, 1, true}, {[][]api.Rat{good, good, nil}, 2, true},
			{[][]api.Rat{ahead}, 0, false}, {[][]api.Rat{good, behind}, 1, false}, {[][]api.Rat{good, ahead, nil}, 1, false}, {[][]api.Rat{good, nil, ahead}, 1, true}, {[][]api.Rat{{r}}, 0, true}, {[][]api.Rat{{r, r, r}, ahead}, 0, true},
		} {
			seeds, weights := api.ErrSeeds, api.ErrWeights
			if !c.len {
				seeds, weights = api.ErrRat, api.ErrRat
			}
			what := fmt.Sprint("number ", i, ", case ", j)
			// a pole and a point at which nodes are large stand behind
			for _, at := range [][]api.Rat{at, nums("6 0"), {power2(9000), num("0")}} {
				d, place, e := sweep.Forward(x, at, c.lists)
				none(t, what+": Forward", x, rows(d), place, e, fault{c.place, seeds})
				d, place, e = sweep.Reverse(x, at, c.lists)
				none(t, what+": Reverse", x, rows(d), place, e, fault{c.place, weights})
				d, place, e = sweep.Second(x, at, good, c.lists)
				none(t, what+": Second", x, rows(d), place, e, fault{c.place, seeds})
				// errors of the weights come ahead, and their place is 0
				last := c.lists[c.place]
				for _, along := range [][][]api.Rat{nil, c.lists, {good}, make([][]api.Rat, 65), {good, behind}} {
					d, place, e = sweep.Second(x, at, last, along)
					none(t, what+": Second's weights", x, rows(d), place, e, fault{0, weights})
				}
				l, place, e := sweep.Tangents(x, at, last)
				none(t, what+": Tangents", x, row(l), place, e, fault{0, seeds})
				l, place, e = sweep.Adjoints(x, at, last)
				none(t, what+": Adjoints", x, row(l), place, e, fault{0, weights})
			}
		}
	}
}

// P7.2 to P7.4, P7.6: MaxSeeds lists, and one more, whatever stands in them.
func TestManyLists(t *testing.T) {
	x := example()
	bad := []api.Rat{{}}
	for _, l := range [][]api.Rat{nums("1 2"), nil, bad, {{}, {}}} {
		for _, at := range [][]api.Rat{nums("6 2"), nums("6 0"), {power2(9000), num("1")}} {
			for _, n := range []int{65, 66, 1000} {
				lists := slices.Repeat([][]api.Rat{l}, n)
				d, place, e := sweep.Forward(x, at, lists)
				none(t, "Forward", x, rows(d), place, e, fault{64, api.ErrSeeds})
				d, place, e = sweep.Reverse(x, at, lists)
				none(t, "Reverse", x, rows(d), place, e, fault{64, api.ErrSeeds})
				d, place, e = sweep.Second(x, at, nums("1 1"), lists)
				none(t, "Second", x, rows(d), place, e, fault{64, api.ErrSeeds})
			}
		}
	}
	most := slices.Repeat(lists("1 2"), 64)
	d, place, e := sweep.Forward(x, nums("6 2"), most)
	wantRows(t, "Forward", d, place, e, slices.Repeat([]string{"14 -5/2"}, 64)...)
	d, place, e = sweep.Reverse(x, nums("6 2"), most)
	wantRows(t, "Reverse", d, place, e, slices.Repeat([]string{"3 3"}, 64)...)
	d, place, e = sweep.Second(x, nums("6 2"), nums("0 1"), most)
	wantRows(t, "Second", d, place, e, slices.Repeat([]string{"-1/2 11/4"}, 64)...)
	most[63] = bad
	if _, place, e := sweep.Forward(x, nums("6 2"), most); place != 63 || e != api.ErrSeeds {
		t.Errorf("the last direction: %d, %d", place, e)
	}
	if _, place, e := sweep.Reverse(x, nums("6 2"), most); place != 63 || e != api.ErrWeights {
		t.Errorf("the last list: %d, %d", place, e)
	}
}

// P7.6: of no directions and no lists it is the error, if there is one.
func TestNoLists(t *testing.T) {
	x := example()
	for _, at := range [][]api.Rat{nums("6 2"), nums("6 0"), nums("6"), {{}, num("1")}, {num("1"), power2(9000)}} {
		wantFaults(t, x, at, nil, nil)
		wantFaults(t, x, at, lists("1 1"), nil)
	}
	x.Outs = nil
	wantFaults(t, x, nums("6 2"), nil, nil)
}

// DOC.md's P1: no call panics, whatever it is given; faults of several kinds at once are told in the chapter's order.
func TestNoPanic(t *testing.T) {
	t.Parallel()
	odd := []int{math.MinInt, math.MinInt + 1, -1025, -1, 0, 0, 0, 1, 1, 2, 2, 3, 9, 64, 65, 2048, 1 << 40, math.MaxInt}
	numbers := append(wrongNumbers(), nums("0 1 -2/3 5 0 1 -2/3 5 7/2 -1 3 2/9")...)
	d := dice(14)
	some := func(n int) []api.Rat {
		l := []api.Rat{}
		for range pick(&d, n, n, n, n, d.next(4)) {
			l = append(l, pick(&d, numbers...))
		}
		return l
	}
	lists := func(n int) [][]api.Rat {
		var l [][]api.Rat
		for range pick(&d, 0, 1, 1, 2, 3) {
			l = append(l, some(n))
		}
		return l
	}
	met := map[api.Errno]int{}
	for i := range 6000 {
		x := d.tape(6)
		if i%3 == 0 {
			x = d.raw(odd, numbers)
		}
		n, m := min(max(x.Inputs, 0), 5), len(x.Outs)
		at, w, along := some(n), lists(m), lists(n)
		wantFaults(t, x, at, w, along)
		var one []api.Rat
		if len(w) > 0 {
			one = w[0]
		}
		_, _, e := sweep.Second(x, at, one, along)
		met[e]++
	}
	for _, e := range []api.Errno{api.OK, api.ErrPole, api.ErrRat, api.ErrPoint, api.ErrSeeds, api.ErrWeights, api.ErrKind, api.ErrUnused, api.ErrInputs, api.ErrOutputs} {
		if met[e] < 5 {
			t.Errorf("error %d was met %d times", e, met[e])
		}
	}
}

// raw is a tape of odd numbers.
func (d *dice) raw(odd []int, numbers []api.Rat) api.Tape {
	x := api.Tape{Inputs: pick(d, odd...)}
	for range d.next(5) {
		x.Ops = append(x.Ops, api.Op{Kind: api.Kind(pick(d, odd...)), A: pick(d, odd...), B: pick(d, odd...), N: pick(d, odd...), C: pick(d, numbers...)})
	}
	for range d.next(3) {
		x.Outs = append(x.Outs, pick(d, odd...))
	}
	return x
}
