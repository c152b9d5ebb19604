package tape_test

import (
	"fmt"
	"math/big"
	"strings"
	"testing"

	"slope/api"
	"slope/natural"
	"slope/rational"
	"slope/tape"
)

// dice throws numbers that are the same in every run.
type dice uint64

func (d *dice) next(n int) int {
	*d = *d*6364136223846793005 + 1442695040888963407
	return int(uint32(*d>>32)) % n
}

// pick is one of a list.
func pick[T any](d *dice, l ...T) T { return l[d.next(len(l))] }

// num reads a number.
func num(s string) api.Rat {
	r, _, e := rational.Parse(s)
	if e != api.OK {
		panic(s)
	}
	return r
}

// nums reads numbers that blanks stand between.
func nums(s string) []api.Rat {
	var l []api.Rat
	for _, word := range strings.Fields(s) {
		l = append(l, num(word))
	}
	return l
}

// power2 is 2^n, over 1.
func power2(n int) api.Rat {
	p, e := natural.Shl(natural.From(1), n)
	if e != api.OK {
		panic(n)
	}
	return api.Rat{Num: p, Den: natural.From(1)}
}

// over is 1 over a number above 0.
func over(r api.Rat) api.Rat { return api.Rat{Num: r.Den, Den: r.Num} }

// Nodes by hand.
func in(a int) api.Op                 { return api.Op{Kind: api.OpInput, A: a} }
func constant(s string) api.Op        { return api.Op{Kind: api.OpConst, C: num(s)} }
func two(k api.Kind, a, b int) api.Op { return api.Op{Kind: k, A: a, B: b} }
func neg(a int) api.Op                { return api.Op{Kind: api.OpNeg, A: a} }
func pow(a, n int) api.Op             { return api.Op{Kind: api.OpPow, A: a, N: n} }

// example is the chapter's tape.
func example() api.Tape {
	return api.Tape{Inputs: 2, Ops: []api.Op{in(0), in(1), two(api.OpMul, 0, 1), two(api.OpMul, 1, 0), two(api.OpAdd, 2, 3), pow(0, -2), constant("3/2")}, Outs: []int{4, 4}}
}

// every is a tape with a node of each kind.
func every() api.Tape {
	return api.Tape{Inputs: 2, Ops: []api.Op{in(1), constant("-3/2"), two(api.OpAdd, 0, 1), two(api.OpSub, 2, 0), two(api.OpMul, 3, 3), two(api.OpDiv, 4, 1), neg(5), pow(6, -3), pow(7, 0)}, Outs: []int{8, 2, 8}}
}

// show is a tape for comparing and for messages: nil and empty lists are the same.
func show(t api.Tape) string {
	var s strings.Builder
	fmt.Fprintf(&s, "inputs %d nodes", t.Inputs)
	for i, op := range t.Ops {
		fmt.Fprintf(&s, " %d(%d %d %d %d %v %x/%x)", i, op.Kind, op.A, op.B, op.N, op.C.Neg, []uint32(op.C.Num), []uint32(op.C.Den))
	}
	fmt.Fprintf(&s, " outs %d", t.Outs)
	return s.String()
}

// short is the beginning of a long message.
func short(s string) string {
	if len(s) > 400 {
		return s[:400] + fmt.Sprintf(".. (%d bytes)", len(s))
	}
	return s
}

// wantTape fails if a tape is another one.
func wantTape(t *testing.T, what string, got, want api.Tape) {
	t.Helper()
	if show(got) != show(want) {
		t.Errorf("%s: %s, want %s", what, short(show(got)), short(show(want)))
	}
}

// must reads a text that is one.
func must(t *testing.T, text string) api.Tape {
	t.Helper()
	x, at, e := tape.Parse(text)
	if e != api.OK || at != 0 {
		t.Fatalf("Parse(%q): place %d, error %d", short(text), at, e)
	}
	return x
}

// nodes is the tape whose text has these lines, with ; between them.
func nodes(t *testing.T, text string) api.Tape {
	t.Helper()
	return must(t, strings.ReplaceAll(text, "; ", "\n")+"\n")
}

// operandsOf are the nodes that a node uses.
func operandsOf(op api.Op) []int {
	switch op.Kind {
	case api.OpAdd, api.OpSub, api.OpMul, api.OpDiv:
		return []int{op.A, op.B}
	case api.OpNeg, api.OpPow:
		return []int{op.A}
	}
	return nil
}

// tape is one at random: few inputs and constants, so that much is alike.
func (d *dice) tape(most int) api.Tape {
	t := api.Tape{Inputs: d.next(4)}
	for n := 1 + d.next(most); len(t.Ops) < n; {
		t.Ops = append(t.Ops, d.op(t.Inputs, len(t.Ops)))
	}
	for n := 1 + d.next(4); len(t.Outs) < n; {
		t.Outs = append(t.Outs, d.next(len(t.Ops)))
	}
	return t
}

// op is a node at random behind so many others.
func (d *dice) op(inputs, ahead int) api.Op {
	kind := api.Kind(1 + d.next(8))
	if kind == api.OpInput && inputs > 0 {
		return in(d.next(inputs))
	}
	if kind <= api.OpConst || ahead == 0 {
		return constant(pick(d, "0", "1", "-1", "2/3", "3/2", "-3/2", "4294967296", "1/4294967296", "18446744073709551616/3"))
	}
	switch kind {
	case api.OpNeg:
		return neg(d.next(ahead))
	case api.OpPow:
		return pow(d.next(ahead), pick(d, -3, -2, -1, 0, 1, 2, 3))
	}
	return two(kind, d.next(ahead), d.next(ahead))
}

// point is one at random for so many inputs.
func (d *dice) point(n int) []api.Rat {
	var l []api.Rat
	for range n {
		l = append(l, num(pick(d, "0", "1", "-1", "2", "1/2", "-7/3", "12345678901234567890", "-1/98765432109876543210", fmt.Sprintf("%d/7", 1+7*d.next(1000)))))
	}
	return l
}

// bigOf is a number in the library's form.
func bigOf(r api.Rat) *big.Rat {
	s, e := rational.Print(r)
	if e != api.OK {
		panic(e)
	}
	z, _ := new(big.Rat).SetString(s)
	return z
}

// wrongNumbers are numbers that may not be.
func wrongNumbers() []api.Rat {
	return []api.Rat{
		{}, {Num: api.Nat{1}}, {Num: api.Nat{2}, Den: api.Nat{4}}, {Neg: true, Den: api.Nat{1}}, {Den: api.Nat{2}}, {Num: api.Nat{1, 0}, Den: api.Nat{1}}, {Num: api.Nat{1}, Den: api.Nat{3, 0}}, {Num: append(make(api.Nat, api.MaxLimbs), 1), Den: api.Nat{1}},
	}
}
