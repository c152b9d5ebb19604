package reach_test

import (
	"fmt"
	"slices"
	"strings"
	"testing"

	"slope/api"
	"slope/rational"
	"slope/tape"
)

// dice throws numbers that are the same in every run.
type dice uint64

func (d *dice) next(n int) int {
	*d = *d*6364136223846793005 + 1442695040888963407
	return int(uint32(*d>>32)) % n
}

// pick is one of a list.
func pick[T any](d *dice, l ...T) T { return l[d.next(len(l))] }

// num reads a number.
func num(s string) api.Rat {
	r, _, e := rational.Parse(s)
	if e != api.OK {
		panic(s)
	}
	return r
}

// nums reads numbers that blanks stand between.
func nums(s string) []api.Rat {
	var l []api.Rat
	for _, word := range strings.Fields(s) {
		l = append(l, num(word))
	}
	return l
}

// units are lists of zeros and a 1, as many as there are numbers in each.
func units(n int) [][]api.Rat {
	var z [][]api.Rat
	for i := range n {
		l := slices.Repeat(nums("0"), n)
		l[i] = num("1")
		z = append(z, l)
	}
	return z
}

// isZero tells whether a number is 0.
func isZero(r api.Rat) bool { return len(r.Num) == 0 }

// row is numbers for comparing and for messages.
func row(l []api.Rat) string {
	var z []string
	for _, r := range l {
		s, _ := rational.Print(r)
		z = append(z, s)
	}
	return strings.Join(z, " ")
}

// Nodes by hand.
func in(a int) api.Op                 { return api.Op{Kind: api.OpInput, A: a} }
func constant(s string) api.Op        { return api.Op{Kind: api.OpConst, C: num(s)} }
func two(k api.Kind, a, b int) api.Op { return api.Op{Kind: k, A: a, B: b} }
func neg(a int) api.Op                { return api.Op{Kind: api.OpNeg, A: a} }
func pow(a, n int) api.Op             { return api.Op{Kind: api.OpPow, A: a, N: n} }

// example is the chapter's tape: x*y + z and x / z.
func example() api.Tape {
	return api.Tape{Inputs: 3, Ops: []api.Op{in(0), in(1), in(2), two(api.OpMul, 0, 1), two(api.OpAdd, 3, 2), two(api.OpDiv, 0, 2)}, Outs: []int{4, 5}}
}

// must is the tape whose text has these lines, with ; between them.
func must(t *testing.T, text string) api.Tape {
	t.Helper()
	x, at, e := tape.Parse(strings.ReplaceAll(text, "; ", "\n") + "\n")
	if e != api.OK {
		t.Fatalf("tape.Parse(%q): place %d, error %d", short(text), at, e)
	}
	return x
}

// short is the beginning of a long message.
func short(s string) string {
	if len(s) > 400 {
		return s[:400] + fmt.Sprintf(".. (%d bytes)", len(s))
	}
	return s
}

// showTape is a tape for messages: its text, where it has one.
func showTape(t api.Tape) string {
	s, e := tape.Print(t)
	if e != api.OK {
		return short(fmt.Sprint(t))
	}
	return short(strings.ReplaceAll(s, "\n", "; "))
}

// operandsOf are the nodes that a node uses, place by place.
func operandsOf(op api.Op) []int {
	switch op.Kind {
	case api.OpAdd, api.OpSub, api.OpMul, api.OpDiv:
		return []int{op.A, op.B}
	case api.OpNeg, api.OpPow:
		return []int{op.A}
	}
	return nil
}

// tape is one at random of that many inputs, nodes and outputs: inputs at several nodes or at none, nodes at both places of others, nodes that are not live, outputs of all kinds.
func (d *dice) tape(inputs, nodes, outs int, powers ...int) api.Tape {
	t := api.Tape{Inputs: inputs}
	for len(t.Ops) < nodes {
		t.Ops = append(t.Ops, d.op(inputs, len(t.Ops), powers))
	}
	for len(t.Outs) < outs {
		// mostly late nodes, which hang on many
		t.Outs = append(t.Outs, nodes-1-d.next(pick(d, 1, min(3, nodes), nodes)))
	}
	return t
}

// op is a node at random behind so many others.
func (d *dice) op(inputs, ahead int, powers []int) api.Op {
	kind := api.Kind(1 + d.next(8))
	if inputs > 0 && (kind == api.OpInput || ahead < inputs && d.next(3) > 0) {
		return in(d.next(inputs))
	}
	if kind <= api.OpConst || ahead == 0 {
		return constant(pick(d, "0", "1", "-1", "2", "2/3", "-3/2", "7"))
	}
	late := func() int { return ahead - 1 - d.next(pick(d, min(3, ahead), ahead)) }
	switch kind {
	case api.OpNeg:
		return neg(late())
	case api.OpPow:
		return pow(late(), pick(d, powers...))
	}
	a := late()
	return two(kind, a, pick(d, a, late(), late(), late()))
}

// anyPowers are powers of all kinds, the greatest and the least among them.
func anyPowers() []int { return []int{-1024, -3, -2, -1, 0, 0, 1, 1, 2, 3, 1024} }

// fewPowers are powers at which numbers stay small.
func fewPowers() []int { return []int{-2, -1, 0, 1, 2, 3} }

// small is a tape at random of a few nodes.
func (d *dice) small(most int, powers ...int) api.Tape {
	return d.tape(d.next(6), 1+d.next(most), 1+d.next(4), powers...)
}

// point is one at random for so many inputs.
func (d *dice) point(n int) []api.Rat {
	var l []api.Rat
	for range n {
		l = append(l, num(pick(d, "0", "1", "-1", "2", "1/2", "-7/3", "5/4", fmt.Sprintf("%d/13", 1+13*d.next(100)))))
	}
	return l
}
