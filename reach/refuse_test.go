package reach_test

import (
	"fmt"
	"math"
	"slices"
	"testing"

	"slope/api"
	"slope/tape"
)

// wrongTape is a tape that may not be, with what tape.Check says of it.
type wrongTape struct {
	what  string
	x     api.Tape
	place int
	e     api.Errno
}

// wrongTapes are a tape in each way in which it may not be.
func wrongTapes() []wrongTape {
	many := func(n int) []api.Op { return slices.Repeat([]api.Op{in(0)}, n) }
	var l []wrongTape
	add := func(what string, place int, e api.Errno, spoil func(x *api.Tape)) {
		x := api.Tape{Inputs: 2, Ops: []api.Op{in(0), in(1), constant("2"), two(api.OpDiv, 0, 1), pow(2, 3)}, Outs: []int{3, 4}}
		spoil(&x)
		l = append(l, wrongTape{what, x, place, e})
	}
	add("the zero value", -1, api.ErrOutputs, func(x *api.Tape) { *x = api.Tape{} })
	add("no nodes", 0, api.ErrOut, func(x *api.Tape) { x.Ops = nil })
	add("no nodes, outputs", -1, api.ErrOutputs, func(x *api.Tape) { x.Ops, x.Outs = nil, []int{} })
	add("inputs below 0", -1, api.ErrInputs, func(x *api.Tape) { x.Inputs = -1 })
	add("the least inputs", -1, api.ErrInputs, func(x *api.Tape) { x.Inputs = math.MinInt })
	add("too many inputs", -1, api.ErrInputs, func(x *api.Tape) { x.Inputs = 65 })
	add("the greatest inputs", -1, api.ErrInputs, func(x *api.Tape) { x.Inputs = math.MaxInt })
	add("too many nodes", -1, api.ErrNodes, func(x *api.Tape) { x.Ops = many(2049) })
	add("no outputs", -1, api.ErrOutputs, func(x *api.Tape) { x.Outs = nil })
	add("too many outputs", -1, api.ErrOutputs, func(x *api.Tape) { x.Outs = make([]int, 65) })
	add("no kind", 3, api.ErrKind, func(x *api.Tape) { x.Ops[3].Kind = 9 })
	add("kind 0", 0, api.ErrKind, func(x *api.Tape) { x.Ops[0].Kind = 0 })
	add("unused B", 4, api.ErrUnused, func(x *api.Tape) { x.Ops[4].B = 1 })
	add("unused N", 3, api.ErrUnused, func(x *api.Tape) { x.Ops[3].N = 1 })
	add("unused C", 1, api.ErrUnused, func(x *api.Tape) { x.Ops[1].C = num("1") })
	add("no input", 1, api.ErrIndex, func(x *api.Tape) { x.Ops[1].A = 2 })
	add("an input below 0", 0, api.ErrIndex, func(x *api.Tape) { x.Ops[0].A = -1 })
	add("inputs of none", 0, api.ErrIndex, func(x *api.Tape) { x.Inputs = 0 })
	add("no number", 2, api.ErrRat, func(x *api.Tape) { x.Ops[2].C = api.Rat{Num: api.Nat{2}, Den: api.Nat{2}} })
	add("no earlier node", 3, api.ErrOperand, func(x *api.Tape) { x.Ops[3].B = 3 })
	add("operand below 0", 4, api.ErrOperand, func(x *api.Tape) { x.Ops[4].A = -1 })
	add("the greatest operand", 3, api.ErrOperand, func(x *api.Tape) { x.Ops[3].A = math.MaxInt })
	add("too great a power", 4, api.ErrPower, func(x *api.Tape) { x.Ops[4].N = 1025 })
	add("too low a power", 4, api.ErrPower, func(x *api.Tape) { x.Ops[4].N = -1025 })
	add("no such output", 6, api.ErrOut, func(x *api.Tape) { x.Outs[1] = 5 })
	add("output below 0", 5, api.ErrOut, func(x *api.Tape) { x.Outs[0] = -1 })
	add("a node and an output", 3, api.ErrOperand, func(x *api.Tape) { x.Outs[0], x.Ops[3].B = -1, 7 })
	add("two nodes", 1, api.ErrIndex, func(x *api.Tape) { x.Ops[4].N, x.Ops[1].A = 5000, 64 })
	add("a size and a node", -1, api.ErrOutputs, func(x *api.Tape) { x.Outs, x.Ops[0].Kind = nil, 0 })
	return l
}

// odd are numbers that are mostly out of range.
func odd() []int {
	return []int{math.MinInt, math.MinInt + 1, -65, -2, -1, -1, 0, 0, 1, 1, 2, 2, 3, 5, 63, 64, 65, 2048, 1 << 32, math.MaxInt}
}

// P10.1 to P10.4, DOC.md's P4: each of tape.Check's faults, with its place, ahead of numbers that may not be; nothing stands beside it.
func TestTapeFaults(t *testing.T) {
	for _, w := range wrongTapes() {
		if place, e := tape.Check(w.x); place != w.place || e != w.e {
			t.Errorf("%s: Check: %d, %d", w.what, place, e)
		}
		for _, c := range allCalls() {
			for _, a := range odd() {
				for _, b := range odd() {
					want := answer{place: w.place, e: w.e}.text()
					if got := c.do(held{w.x, a, b}).text(); got != want {
						t.Errorf("%s: %s(%d, %d): %s, want %s", w.what, c.name, a, b, got, want)
					}
				}
			}
		}
	}
}

// P10.3: outputs and inputs that are none, each by itself and both; place 0, and nothing beside it.
func TestArgFaults(t *testing.T) {
	for _, x := range []api.Tape{example(), must(t, "inputs 0; const 1; out 0"), must(t, "inputs 1; const 1; out 0; out 0; out 0"), must(t, "inputs 3; in 0; in 1; in 2; mul 0 1; mul 2 3; out 4")} {
		p := newPlain(x)
		met := map[api.Errno]int{}
		for _, c := range allCalls() {
			for _, a := range odd() {
				for _, b := range odd() {
					met[wantPlain(t, c, p, held{x, a, b}).e]++
				}
			}
		}
		if met[api.ErrArg] < 100 || met[api.OK]+met[api.ErrArg] != len(allCalls())*len(odd())*len(odd()) {
			t.Errorf("errors met: %v: %s", met, showTape(x))
		}
	}
}

// DOC.md's P7: 64 inputs and outputs are counted to their last.
func TestArgLast(t *testing.T) {
	x := api.Tape{Inputs: 64, Ops: []api.Op{in(63), two(api.OpMul, 0, 0)}, Outs: slices.Repeat([]int{1}, 64)}
	p := newPlain(x)
	for _, c := range allCalls() {
		for _, a := range []int{-1, 0, 62, 63, 64, 65} {
			for _, b := range []int{-1, 0, 62, 63, 64, 65} {
				wantPlain(t, c, p, held{x, a, b})
			}
		}
	}
	wantWay(t, x, 63, 63, 0, 1)
	wantBend(t, x, 63, 63, 1, true)
}

// DOC.md's P1: no call panics, whatever it is given; faults of several kinds at once are told in the chapter's order.
func TestNoPanic(t *testing.T) {
	t.Parallel()
	d := dice(14)
	met := map[string]int{}
	for i := range 20000 {
		x := d.spoilt()
		if i%3 == 0 {
			x = d.raw()
		}
		var p plain
		if _, e := tape.Check(x); e == api.OK {
			p = newPlain(x)
		}
		h := held{x, pick(&d, odd()...), pick(&d, odd()...)}
		for _, c := range allCalls() {
			met[fmt.Sprint(c.name, wantPlain(t, c, p, h).e)]++
		}
	}
	for _, c := range allCalls() {
		for _, e := range []api.Errno{api.OK, api.ErrInputs, api.ErrOutputs, api.ErrKind, api.ErrUnused, api.ErrIndex, api.ErrRat, api.ErrOperand, api.ErrPower, api.ErrOut} {
			if met[fmt.Sprint(c.name, e)] < 20 {
				t.Errorf("%s: error %d was met %d times", c.name, e, met[fmt.Sprint(c.name, e)])
			}
		}
		if c.counts != nil && met[fmt.Sprint(c.name, api.ErrArg)] < 1000 {
			t.Errorf("%s: ErrArg was met %d times", c.name, met[fmt.Sprint(c.name, api.ErrArg)])
		}
	}
}

// wrongNumbers are numbers that may not be.
func wrongNumbers() []api.Rat {
	return []api.Rat{{}, {Num: api.Nat{1}}, {Num: api.Nat{2}, Den: api.Nat{4}}, {Neg: true, Den: api.Nat{1}}, {Den: api.Nat{2}}, {Num: api.Nat{1, 0}, Den: api.Nat{1}}}
}

// spoilt is a tape at random with odd numbers here and there; some are good.
func (d *dice) spoilt() api.Tape {
	x := d.small(8, anyPowers()...)
	for range d.next(3) {
		op := &x.Ops[d.next(len(x.Ops))]
		switch d.next(8) {
		case 0:
			op.Kind = api.Kind(pick(d, odd()...))
		case 1:
			op.A = pick(d, odd()...)
		case 2:
			op.B = pick(d, odd()...)
		case 3:
			op.N = pick(d, append(odd(), 1024, 1025, -1024, -1025)...)
		case 4:
			op.C = pick(d, append(wrongNumbers(), num("1"))...)
		case 5:
			x.Outs[d.next(len(x.Outs))] = pick(d, odd()...)
		case 6:
			x.Inputs = pick(d, odd()...)
		default:
			x.Outs = pick(d, nil, make([]int, 64), make([]int, 65))
			x.Ops = append(x.Ops, constant("1"))
		}
		if len(x.Outs) == 0 {
			break
		}
	}
	return x
}

// raw is a tape of odd numbers.
func (d *dice) raw() api.Tape {
	x := api.Tape{Inputs: pick(d, append(odd(), 0, 1, 2, 3)...)}
	for range d.next(5) {
		x.Ops = append(x.Ops, api.Op{Kind: api.Kind(pick(d, odd()...)), A: pick(d, odd()...), B: pick(d, odd()...), N: pick(d, odd()...), C: pick(d, append(wrongNumbers(), num("1"))...)})
	}
	for range d.next(3) {
		x.Outs = append(x.Outs, pick(d, odd()...))
	}
	return x
}
