package tape_test

import (
	"fmt"
	"math"
	"slices"
	"testing"

	"slope/api"
	"slope/rational"
	"slope/tape"
)

// wantCheck fails if Check says something else, or if another call doesn't say it first, or says more beside it.
func wantCheck(t *testing.T, what string, x api.Tape, at int, e api.Errno) {
	t.Helper()
	if gotAt, got := tape.Check(x); gotAt != at || got != e {
		t.Errorf("%s: Check: place %d, error %d, want %d, %d: %s", what, gotAt, got, at, e, short(show(x)))
	}
	if e == api.OK {
		return
	}
	// What stands beside the tape is wrong as well: the tape's error comes first.
	wrong := []api.Rat{{}}
	none := show(api.Tape{})
	if l, f := tape.Live(x); f != e || len(l) > 0 {
		t.Errorf("%s: Live: %v, %d", what, l, f)
	}
	if l, f := tape.Uses(x); f != e || len(l) > 0 {
		t.Errorf("%s: Uses: %v, %d", what, l, f)
	}
	if l, f := tape.Depth(x); f != e || len(l) > 0 {
		t.Errorf("%s: Depth: %v, %d", what, l, f)
	}
	for name, call := range map[string]func(api.Tape) (api.Tape, []int, api.Errno){"Trim": tape.Trim, "Merge": tape.Merge, "Clean": tape.Clean} {
		if z, l, f := call(x); f != e || len(l) > 0 || show(z) != none {
			t.Errorf("%s: %s: %v, %d", what, name, l, f)
		}
	}
	if z, f := tape.Blend(x, wrong); f != e || show(z) != none {
		t.Errorf("%s: Blend: %d", what, f)
	}
	if z, f := tape.Cut(x, -1); f != e || show(z) != none {
		t.Errorf("%s: Cut: %d", what, f)
	}
	if l, f := tape.Weigh(x, wrong, wrong); f != e || len(l) > 0 {
		t.Errorf("%s: Weigh: %v, %d", what, l, f)
	}
	if n, ok, f := tape.Large(x, wrong, wrong); f != e || n != 0 || ok {
		t.Errorf("%s: Large: %d, %v, %d", what, n, ok, f)
	}
	if n, ok, f := tape.LargeSum(x, wrong, wrong, wrong); f != e || n != 0 || ok {
		t.Errorf("%s: LargeSum: %d, %v, %d", what, n, ok, f)
	}
	if s, f := tape.Print(x); f != e || s != "" {
		t.Errorf("%s: Print: %q, %d", what, s, f)
	}
}

// P5.1: the chapter's example 1.
func TestCheckExamples(t *testing.T) {
	wantCheck(t, "as it is", example(), 0, api.OK)
	x := example()
	x.Ops[2] = two(api.OpMul, 0, 2)
	wantCheck(t, "mul 0 2", x, 2, api.ErrOperand)
	x = example()
	x.Ops[2].N = 1
	wantCheck(t, "N in a product", x, 2, api.ErrUnused)
	x = example()
	x.Outs = []int{4, 7}
	wantCheck(t, "outputs 4, 7", x, 8, api.ErrOut)
}

// P5.1: the sizes, each at its edges, and their order.
func TestCheckSizes(t *testing.T) {
	ops := func(n int) []api.Op { return slices.Repeat([]api.Op{constant("1")}, n) }
	for _, c := range []struct {
		inputs, ops, outs int
		e                 api.Errno
	}{
		{0, 1, 1, api.OK}, {1, 1, 1, api.OK}, {api.MaxInputs, 1, 1, api.OK},
		{-1, 1, 1, api.ErrInputs}, {math.MinInt, 1, 1, api.ErrInputs}, {api.MaxInputs + 1, 1, 1, api.ErrInputs}, {math.MaxInt, 1, 1, api.ErrInputs},
		{0, api.MaxNodes, 1, api.OK}, {0, api.MaxNodes + 1, 1, api.ErrNodes},
		{0, 1, 0, api.ErrOutputs}, {0, 1, api.MaxOutputs, api.OK}, {0, 1, api.MaxOutputs + 1, api.ErrOutputs}, {0, 0, 0, api.ErrOutputs},
		{-1, api.MaxNodes + 1, 0, api.ErrInputs}, {65, api.MaxNodes + 1, 65, api.ErrInputs}, {64, api.MaxNodes + 1, 0, api.ErrNodes}, {64, api.MaxNodes + 1, 65, api.ErrNodes},
	} {
		at := 0
		if c.e != api.OK {
			at = -1
		}
		wantCheck(t, fmt.Sprint(c), api.Tape{Inputs: c.inputs, Ops: ops(c.ops), Outs: make([]int, c.outs)}, at, c.e)
	}
	wantCheck(t, "sizes ahead of nodes", api.Tape{Ops: []api.Op{{Kind: 99}}, Outs: make([]int, 65)}, -1, api.ErrOutputs)
	wantCheck(t, "an output of no nodes", api.Tape{Outs: []int{0}}, 0, api.ErrOut)
	wantCheck(t, "none of it", api.Tape{}, -1, api.ErrOutputs)
}

// withLast is a tape of two inputs with that node behind two good ones.
func withLast(op api.Op) api.Tape {
	return api.Tape{Inputs: 2, Ops: []api.Op{in(0), in(1), op}, Outs: []int{2}}
}

// P5.1: kinds, inputs, operands and powers at their edges.
func TestCheckNodes(t *testing.T) {
	for _, c := range []struct {
		op api.Op
		e  api.Errno
	}{
		{api.Op{}, api.ErrKind}, {api.Op{Kind: -1}, api.ErrKind}, {api.Op{Kind: 9}, api.ErrKind}, {api.Op{Kind: math.MinInt}, api.ErrKind}, {api.Op{Kind: math.MaxInt}, api.ErrKind},
		{in(0), api.OK}, {in(1), api.OK}, {in(2), api.ErrIndex}, {in(-1), api.ErrIndex}, {in(math.MinInt), api.ErrIndex}, {in(math.MaxInt), api.ErrIndex},
		{neg(0), api.OK}, {neg(1), api.OK}, {neg(2), api.ErrOperand}, {neg(3), api.ErrOperand}, {neg(-1), api.ErrOperand}, {neg(math.MaxInt), api.ErrOperand},
		{pow(1, 0), api.OK}, {pow(1, -1), api.OK}, {pow(1, 1), api.OK}, {pow(1, api.MaxPower), api.OK}, {pow(1, -api.MaxPower), api.OK}, {pow(1, api.MaxPower+1), api.ErrPower}, {pow(1, -api.MaxPower-1), api.ErrPower}, {pow(1, math.MinInt), api.ErrPower}, {pow(1, math.MaxInt), api.ErrPower},
		{pow(2, 0), api.ErrOperand}, {pow(-1, 0), api.ErrOperand}, {pow(2, 1025), api.ErrOperand},
	} {
		at := 0
		if c.e != api.OK {
			at = 2
		}
		wantCheck(t, fmt.Sprint(c.op), withLast(c.op), at, c.e)
	}
	for k := api.OpAdd; k <= api.OpDiv; k++ {
		for _, a := range []int{math.MinInt, -1, 0, 1, 2, 3, math.MaxInt} {
			for _, b := range []int{math.MinInt, -1, 0, 1, 2, 3, math.MaxInt} {
				at, e := 0, api.OK
				if a != 0 && a != 1 || b != 0 && b != 1 {
					at, e = 2, api.ErrOperand
				}
				wantCheck(t, fmt.Sprint(k, a, b), withLast(two(k, a, b)), at, e)
			}
		}
	}
}

// P5.1: a field that a kind doesn't use is empty, whatever else is wrong with the node.
func TestCheckUnused(t *testing.T) {
	good := []api.Op{in(1), constant("2"), two(api.OpAdd, 0, 1), two(api.OpSub, 0, 1), two(api.OpMul, 0, 1), two(api.OpDiv, 0, 1), neg(1), pow(1, 2)}
	// A field of the kind itself is never unused, so filling it as these do is no fault, or a later one.
	uses := []string{"A", "C", "AB", "AB", "AB", "AB", "A", "AN"}
	fill := []struct {
		field string
		do    func(op *api.Op)
	}{
		{"A", func(op *api.Op) { op.A = 1 }}, {"A", func(op *api.Op) { op.A = -1 }}, {"B", func(op *api.Op) { op.B = 1 }}, {"B", func(op *api.Op) { op.B = math.MinInt }},
		{"N", func(op *api.Op) { op.N = 1 }}, {"N", func(op *api.Op) { op.N = -2000 }},
		{"C", func(op *api.Op) { op.C = num("0") }}, {"C", func(op *api.Op) { op.C = api.Rat{Neg: true} }}, {"C", func(op *api.Op) { op.C = api.Rat{Num: api.Nat{1}} }}, {"C", func(op *api.Op) { op.C = api.Rat{Den: api.Nat{0}} }},
	}
	for i, op := range good {
		wantCheck(t, "good", withLast(op), 0, api.OK)
		empty := op
		if empty.Kind != api.OpConst {
			empty.C = api.Rat{Num: api.Nat{}, Den: make(api.Nat, 0, 3)}
		}
		wantCheck(t, "empty lists", withLast(empty), 0, api.OK)
		for _, f := range fill {
			if slices.Contains([]byte(uses[i]), f.field[0]) {
				continue
			}
			x := op
			f.do(&x)
			wantCheck(t, fmt.Sprint("unused ", f.field), withLast(x), 2, api.ErrUnused)
			// ahead of the errors of what the kind uses
			if x.Kind != api.OpConst {
				x.A = 99
			} else {
				x.C = api.Rat{}
			}
			wantCheck(t, fmt.Sprint("unused first ", f.field), withLast(x), 2, api.ErrUnused)
		}
	}
}

// P5.1: constants that may not be.
func TestCheckConstants(t *testing.T) {
	for i, r := range wrongNumbers() {
		wantCheck(t, fmt.Sprint("number ", i), withLast(api.Op{Kind: api.OpConst, C: r}), 2, api.ErrRat)
	}
	for _, s := range []string{"0", "1", "-1", "-3/2", "18446744073709551616/3"} {
		wantCheck(t, s, withLast(constant(s)), 0, api.OK)
	}
}

// P5.1: the first fault in the order of nodes, then of outputs.
func TestCheckOrder(t *testing.T) {
	x := example()
	x.Ops[1].A, x.Ops[3].Kind, x.Outs[0] = 7, 0, -1
	wantCheck(t, "node 1 ahead of 3", x, 1, api.ErrIndex)
	x.Ops[1].A = 1
	wantCheck(t, "node 3 ahead of outputs", x, 3, api.ErrKind)
	x.Ops[3] = neg(0)
	wantCheck(t, "output 0", x, 7, api.ErrOut)
	x.Outs = []int{0, 6, 7, -1}
	wantCheck(t, "output 2", x, 9, api.ErrOut)
	x.Outs = []int{0, 6, 0, 6, math.MinInt}
	wantCheck(t, "output 4", x, 11, api.ErrOut)
}

// plainCheck is the chapter's list, word by word.
func plainCheck(t api.Tape) (int, api.Errno) {
	switch {
	case t.Inputs < 0, t.Inputs > 64:
		return -1, api.ErrInputs
	case len(t.Ops) > 2048:
		return -1, api.ErrNodes
	case len(t.Outs) < 1, len(t.Outs) > 64:
		return -1, api.ErrOutputs
	}
	for i, op := range t.Ops {
		noC := len(op.C.Num) == 0 && len(op.C.Den) == 0 && !op.C.Neg
		var e api.Errno
		earlier := func(n int) {
			if e == api.OK && (n < 0 || n > i-1) {
				e = api.ErrOperand
			}
		}
		unused := func(yes bool) bool {
			if yes {
				e = api.ErrUnused
			}
			return yes
		}
		switch op.Kind {
		case api.OpInput:
			if !unused(op.B != 0 || op.N != 0 || !noC) && (op.A < 0 || op.A > t.Inputs-1) {
				e = api.ErrIndex
			}
		case api.OpConst:
			if !unused(op.A != 0 || op.B != 0 || op.N != 0) && !rational.May(op.C) {
				e = api.ErrRat
			}
		case api.OpAdd, api.OpSub, api.OpMul, api.OpDiv:
			if !unused(op.N != 0 || !noC) {
				earlier(op.A)
				earlier(op.B)
			}
		case api.OpNeg:
			if !unused(op.B != 0 || op.N != 0 || !noC) {
				earlier(op.A)
			}
		case api.OpPow:
			if !unused(op.B != 0 || !noC) {
				earlier(op.A)
				if e == api.OK && (op.N < -1024 || op.N > 1024) {
					e = api.ErrPower
				}
			}
		default:
			e = api.ErrKind
		}
		if e != api.OK {
			return i, e
		}
	}
	for i, n := range t.Outs {
		if n < 0 || n >= len(t.Ops) {
			return len(t.Ops) + i, api.ErrOut
		}
	}
	return 0, api.OK
}

// raw is a tape of odd numbers; some are good.
func (d *dice) raw() api.Tape {
	odd := []int{math.MinInt, math.MinInt + 1, -1025, -1024, -1, 0, 1, 2, 3, 64, 65, 1024, 1025, 1 << 32, math.MaxInt}
	t := d.tape(6)
	for range d.next(4) {
		op := &t.Ops[d.next(len(t.Ops))]
		switch d.next(8) {
		case 0:
			op.Kind = api.Kind(pick(d, odd...))
		case 1:
			op.A = pick(d, odd...)
		case 2:
			op.B = pick(d, odd...)
		case 3:
			op.N = pick(d, odd...)
		case 4:
			op.C = pick(d, append(wrongNumbers(), num("1"))...)
		case 5:
			t.Outs[d.next(len(t.Outs))] = pick(d, odd...)
		case 6:
			t.Inputs = pick(d, odd...)
		default:
			op.Kind = api.Kind(1 + d.next(8))
		}
	}
	return t
}

// P5.1: over tapes at random.
func TestCheckPlain(t *testing.T) {
	t.Parallel()
	d := dice(1)
	seen := map[api.Errno]int{}
	for i := range 20000 {
		x := d.raw()
		at, e := plainCheck(x)
		seen[e]++
		wantCheck(t, fmt.Sprint("tape ", i), x, at, e)
	}
	for _, e := range []api.Errno{api.OK, api.ErrInputs, api.ErrKind, api.ErrUnused, api.ErrIndex, api.ErrRat, api.ErrOperand, api.ErrPower, api.ErrOut} {
		if seen[e] < 20 {
			t.Errorf("error %d was met %d times", e, seen[e])
		}
	}
}
