package engine_test

import (
	"slices"
	"testing"

	"slope/api"
	"slope/engine"
	"slope/reach"
	"slope/sparse"
	"slope/tape"
)

// plainComposed is outer behind inner, node by node, by P17.9's words.
func plainComposed(outer, inner api.Tape) api.Tape {
	n := len(inner.Ops)
	z := api.Tape{Inputs: inner.Inputs, Ops: slices.Clone(inner.Ops)}
	for _, op := range outer.Ops {
		switch op.Kind {
		case api.OpInput:
			op = pow(inner.Outs[op.A], 1)
		case api.OpNeg:
			op = neg(n + op.A)
		case api.OpPow:
			op = pow(n+op.A, op.N)
		case api.OpAdd, api.OpSub, api.OpMul, api.OpDiv:
			op = two(op.Kind, n+op.A, n+op.B)
		}
		z.Ops = append(z.Ops, op)
	}
	for _, out := range outer.Outs {
		z.Outs = append(z.Outs, n+out)
	}
	return z
}

// after is a tape at random with so many inputs.
func (d *dice) after(inputs, most int) api.Tape {
	for {
		x := d.tape(most)
		x.Inputs = inputs
		for n, op := range x.Ops {
			if op.Kind == api.OpInput && inputs == 0 {
				x.Ops[n] = constant("5/7")
			} else if op.Kind == api.OpInput {
				x.Ops[n].A = d.next(inputs)
			}
		}
		if _, e := tape.Check(x); e == api.OK {
			return x
		}
	}
}

// P17.9: the tape that is composed, node by node; its values; the chain rule; its pattern is the product of both (P10.6).
func TestCompose(t *testing.T) {
	t.Parallel()
	d := dice(22)
	held := 0
	for range 700 {
		inner := d.tape(12)
		outer := d.after(len(inner.Outs), 12)
		x, place, e := engine.Compose(outer, inner)
		if want := plainComposed(outer, inner); place != 0 || e != api.OK || showTape(x) != showTape(want) || !slices.EqualFunc(x.Ops, want.Ops, sameOp) {
			t.Fatalf("Compose: %s, place %d, error %d; want %s", showTape(x), place, e, showTape(want))
		}
		if place, e := tape.Check(x); e != api.OK {
			t.Fatalf("Compose: place %d, error %d: %s", place, e, showTape(x))
		}
		p, _, _ := reach.Jacobian(outer)
		q, _, _ := reach.Jacobian(inner)
		want, _ := sparse.Product(p, q)
		if got, _, _, _ := engine.Patterns(x); !samePattern(got, want) {
			t.Errorf("Patterns: %v, want %v: %s", got, want, showTape(x))
		}
		if wantChain(t, &d, outer, inner, x, d.point(inner.Inputs)) {
			held++
		}
	}
	if held < 250 {
		t.Errorf("the chain rule was looked at %d times", held)
	}
}

// sameOp tells whether two nodes are alike in every field.
func sameOp(a, b api.Op) bool {
	return a.Kind == b.Kind && a.A == b.A && a.B == b.B && a.N == b.N && a.C.Neg == b.C.Neg && slices.Equal(a.C.Num, b.C.Num) && slices.Equal(a.C.Den, b.C.Den)
}

// wantChain fails if values or Jacobian of what is composed are not those of outer at inner's values, times those of inner; false where one of them is refused.
func wantChain(t *testing.T, d *dice, outer, inner, x api.Tape, at []api.Rat) bool {
	t.Helper()
	between, _, e := engine.Values(inner, at)
	if e != api.OK {
		return false
	}
	values, _, e := engine.Values(outer, between)
	all, _, f := engine.Values(x, at)
	if e != api.OK || f != api.OK {
		return false
	}
	if row(values) != row(all) {
		t.Errorf("Values: %s, want %s: %s", row(all), row(values), showTape(x))
	}
	whole, _, _, _ := engine.Jacobian(x, at, pick(d, d.jacobianPlans(x)...))
	a, _, _, _ := engine.Jacobian(outer, between, pick(d, d.jacobianPlans(outer)...))
	b, _, _, _ := engine.Jacobian(inner, at, pick(d, d.jacobianPlans(inner)...))
	product, e := sparse.Times(a, b)
	if e != api.OK {
		return false
	}
	got, _ := sparse.Dense(whole)
	want, _ := sparse.Dense(product)
	if !slices.EqualFunc(got, want, func(a, b []api.Rat) bool { return row(a) == row(b) }) {
		t.Errorf("the chain rule: %s, want %s: %s", matrixText(whole), matrixText(product), showTape(x))
	}
	return true
}

// chain is a tape of so many nodes: an input, negated again and again.
func chain(nodes int) api.Tape {
	x := api.Tape{Inputs: 1, Ops: []api.Op{in(0)}, Outs: []int{nodes - 1}}
	for len(x.Ops) < nodes {
		x.Ops = append(x.Ops, neg(len(x.Ops)-1))
	}
	return x
}

// P17.9: MaxNodes nodes together, and one more; what is composed so is answered.
func TestComposeNodes(t *testing.T) {
	for _, n := range []int{1, 2, 1000, 1024, 2047} {
		x, place, e := engine.Compose(chain(n), chain(api.MaxNodes-n))
		if place != 0 || e != api.OK || len(x.Ops) != api.MaxNodes || x.Outs[0] != api.MaxNodes-1 {
			t.Errorf("%d nodes behind the others: %d nodes, place %d, error %d", n, len(x.Ops), place, e)
		}
		isAnswer(t, answerText(engine.Jacobian(x, nums("3"), api.Plan{Mode: api.ModeRows, Order: api.OrderNatural, Workers: 1})), "1 sweeps, place 0, error 0, 1 by 1 | 0,0: 1")
		for _, outer := range []int{n, n + 1} {
			if _, place, e := engine.Compose(chain(outer), chain(api.MaxNodes+1-n)); place != 0 || e != api.ErrNodes {
				t.Errorf("%d and %d nodes: place %d, error %d", outer, api.MaxNodes+1-n, place, e)
			}
		}
	}
}

// P17.9: outer's faults, then inner's, with their places; then ErrShape, then ErrNodes.
func TestComposeFaults(t *testing.T) {
	good := must(t, "inputs 2; in 0; in 1; mul 0 1; out 2; out 0")
	odd, worse, long := good, good, chain(api.MaxNodes)
	odd.Ops = slices.Clone(good.Ops)
	odd.Ops[2].B = 2
	worse.Outs = []int{0, 3}
	one := must(t, "inputs 1; in 0; out 0")
	for _, c := range []struct {
		outer, inner api.Tape
		f            fault
	}{
		{good, good, fault{}},
		{odd, good, fault{2, api.ErrOperand}},
		{good, odd, fault{2, api.ErrOperand}},
		{odd, worse, fault{2, api.ErrOperand}},
		{worse, odd, fault{4, api.ErrOut}},
		{worse, long, fault{4, api.ErrOut}},
		{long, worse, fault{4, api.ErrOut}},
		{api.Tape{Inputs: -1}, odd, fault{-1, api.ErrInputs}},
		{good, api.Tape{Inputs: 65}, fault{-1, api.ErrInputs}},
		{api.Tape{}, api.Tape{}, fault{-1, api.ErrOutputs}},
		{good, one, fault{0, api.ErrShape}},
		{one, good, fault{0, api.ErrShape}},
		{good, long, fault{0, api.ErrShape}},
		{long, good, fault{0, api.ErrShape}},
		{one, long, fault{0, api.ErrNodes}},
		{long, one, fault{0, api.ErrNodes}},
		{long, long, fault{0, api.ErrNodes}},
	} {
		x, place, e := engine.Compose(c.outer, c.inner)
		if (fault{place, e}) != c.f || e != api.OK && (x.Inputs != 0 || x.Ops != nil || x.Outs != nil) {
			t.Errorf("Compose: place %d, error %d, want %v: %s, %s", place, e, c.f, showTape(c.outer), showTape(c.inner))
		}
	}
	// outer without inputs needs an inner one without outputs, which there is not
	if _, _, e := engine.Compose(must(t, "inputs 0; const 1; out 0"), one); e != api.ErrShape {
		t.Errorf("Compose: error %d", e)
	}
}
