package reach_test

import (
	"fmt"
	"slices"
	"testing"

	"slope/api"
	"slope/reach"
	"slope/tape"
)

// grown is a tape of 64 inputs, each at a node of its own, with nodes behind them until there are so many, and the last 64 as outputs.
func grown(nodes int, next func(n int) api.Op) api.Tape {
	x := api.Tape{Inputs: 64}
	for n := range nodes {
		if n < 64 {
			x.Ops = append(x.Ops, in(n))
		} else {
			x.Ops = append(x.Ops, next(n))
		}
	}
	for i := range 64 {
		x.Outs = append(x.Outs, nodes-1-i)
	}
	return x
}

// largest are tapes as large as they may be.
func largest() map[string]api.Tape {
	d := dice(41)
	kinds := []api.Kind{api.OpAdd, api.OpSub, api.OpMul, api.OpDiv}
	z := map[string]api.Tape{
		"sums and one product in the end": grown(2048, func(n int) api.Op {
			if n == 2047 {
				return two(api.OpMul, n-1, n-1)
			}
			return two(api.OpAdd, n-1, n%64)
		}),
		"quotients of all that is near": grown(2048, func(n int) api.Op { return two(api.OpDiv, n-1, n-64) }),
		"products of neighbours":        grown(2048, func(n int) api.Op { return two(api.OpMul, n-64, n-63) }),
		"squares":                       grown(2048, func(n int) api.Op { return pow(n-64, 2) }),
		"powers 1":                      grown(2048, func(n int) api.Op { return pow(n-64, 1) }),
		"a product of 62 and 63 alone":  grown(2048, func(n int) api.Op { return two(kinds[2*(n/2047)], 62, 63) }),
		"every node an input":           grown(2048, func(n int) api.Op { return in((n * 7) % 64) }),
		"constants behind inputs":       grown(2048, func(n int) api.Op { return constant("3") }),
		"at random, near": grown(2048, func(n int) api.Op {
			return two(pick(&d, kinds...), n-1-d.next(64), n-1-d.next(64))
		}),
		"at random, far, few bend": grown(2048, func(n int) api.Op {
			return two(pick(&d, api.OpAdd, api.OpAdd, api.OpAdd, kinds[d.next(4)]), d.next(n), d.next(n))
		}),
		"of all kinds": d.tape(64, 2048, 64, anyPowers()...),
	}
	chain := api.Tape{Inputs: 64, Ops: []api.Op{in(63)}, Outs: slices.Repeat([]int{2047}, 64)}
	for n := 1; n < 2048; n++ {
		chain.Ops = append(chain.Ops, neg(n-1))
	}
	z["one way of all nodes"] = chain
	none := chain
	none.Inputs, none.Ops = 0, slices.Clone(chain.Ops)
	none.Ops[0] = constant("-1/2")
	z["no inputs"] = none
	z["inputs at no node"] = api.Tape{Inputs: 64, Ops: none.Ops, Outs: chain.Outs}
	z["63 inputs"] = d.tape(63, 2048, 63, anyPowers()...)
	return z
}

// wantGreedy fails if a way is not the chapter's, found step by step.
func wantGreedy(t *testing.T, what string, p plain, output, input int) {
	t.Helper()
	l, place, e := reach.Way(p.x, output, input)
	if place != 0 || e != api.OK {
		t.Fatalf("%s: Way(%d, %d): place %d, error %d", what, output, input, place, e)
	}
	var want []int
	if n := p.x.Outs[output]; p.in[n][input] {
		want = []int{n}
		for p.x.Ops[n].Kind != api.OpInput {
			k := operandsOf(p.x.Ops[n])
			slices.Sort(k)
			k = slices.DeleteFunc(k, func(m int) bool { return !p.in[m][input] })
			n = k[0]
			want = append([]int{n}, want...)
		}
	}
	if !slices.Equal(l, want) {
		t.Errorf("%s: Way(%d, %d): %s, want %s", what, output, input, short(fmt.Sprint(l)), short(fmt.Sprint(want)))
	}
}

// wantBends fails if the least nodes that join inputs are others.
func wantBends(t *testing.T, what string, p plain, j int, ks []int) {
	t.Helper()
	for _, k := range ks {
		want, is := p.bend(j, k)
		if n, found, place, e := reach.Bend(p.x, j, k); n != want || found != is || place != 0 || e != api.OK {
			t.Errorf("%s: Bend(%d, %d): %d, %v, place %d, error %d, want %d, %v", what, j, k, n, found, place, e, want, is)
		}
	}
}

// linearLarge is plain's linear, without all pairs of inputs: a node that joins any joins one that an operand hangs on with one that the other does.
func (p plain) linearLarge() []bool {
	var z []bool
	bends := make([]bool, len(p.x.Ops))
	for n, op := range p.x.Ops {
		k := operandsOf(op)
		for _, a := range k {
			for _, b := range k {
				i, j := slices.Index(p.in[a], true), slices.Index(p.in[b], true)
				bends[n] = bends[n] || i >= 0 && j >= 0 && p.joins(n, i, j)
			}
		}
	}
	for _, out := range p.x.Outs {
		yes := true
		for n := range bends {
			yes = yes && !(bends[n] && p.on[out][n])
		}
		z = append(z, yes)
	}
	return z
}

// P10.1 to P10.4, P10.6: tapes as large as they may be.
func TestLargest(t *testing.T) {
	for what, x := range largest() {
		t.Run(what, func(t *testing.T) {
			t.Parallel()
			if _, e := tape.Check(x); e != api.OK || len(x.Ops) != 2048 {
				t.Fatalf("Check: error %d", e)
			}
			p := newPlain(x)
			for _, c := range allCalls() {
				if c.name == "Linear" {
					c.want = func(p plain, h held) answer { return answer{bools: p.linearLarge()} }
				}
				if c.counts == nil {
					wantPlain(t, c, p, held{x: x})
				}
			}
			d := dice(42)
			for j := range x.Inputs {
				for range 4 {
					wantGreedy(t, what, p, d.next(len(x.Outs)), j)
				}
				wantGreedy(t, what, p, len(x.Outs)-1, j)
				wantBends(t, what, p, j, []int{j, d.next(x.Inputs), x.Inputs - 1})
			}
			wantTrimmed(t, x)
		})
	}
}

// P10.6: tapes of as many inputs and outputs as there may be, one behind the other, and their sums.
func TestLargeForms(t *testing.T) {
	t.Parallel()
	d := dice(43)
	for i := range 12 {
		nodes := pick(&d, 64, 70, 200, 1024)
		x, y := d.tape(64, nodes, 64, anyPowers()...), d.tape(64, 2048-nodes, 64, anyPowers()...)
		if i%2 == 0 {
			thin := func(n int) api.Op { return two(pick(&d, api.OpAdd, api.OpMul, api.OpDiv), n-64, n-1-d.next(64)) }
			x, y = grown(nodes+30, thin), grown(300, thin)
		}
		p := wantProduct(t, x, y)
		if p.Rows != 64 || p.Width != 64 {
			t.Errorf("%d by %d", p.Rows, p.Width)
		}
		wantForms(t, x, d.point(64))
	}
}

// DOC.md's P8: nothing hangs on the order of a map.
func TestAgainAndAgain(t *testing.T) {
	t.Parallel()
	x := largest()["at random, far, few bend"]
	for _, c := range allCalls() {
		want := c.do(held{x, 5, 9}).text()
		for range 10 {
			if got := c.do(held{x, 5, 9}).text(); got != want {
				t.Fatalf("%s: another answer: %s, %s", c.name, short(got), short(want))
			}
		}
	}
}
