package engine_test

import (
	"fmt"
	"math/big"
	"slices"
	"strings"
	"testing"

	"slope/api"
	"slope/natural"
	"slope/rational"
	"slope/tape"
)

// dice throws numbers that are the same in every run.
type dice uint64

func (d *dice) next(n int) int {
	*d = *d*6364136223846793005 + 1442695040888963407
	return int(uint32(*d>>32)) % n
}

// pick is one of a list.
func pick[T any](d *dice, l ...T) T { return l[d.next(len(l))] }

// num reads a number.
func num(s string) api.Rat {
	r, _, e := rational.Parse(s)
	if e != api.OK {
		panic(s)
	}
	return r
}

// nums reads numbers that blanks stand between.
func nums(s string) []api.Rat {
	var l []api.Rat
	for _, word := range strings.Fields(s) {
		l = append(l, num(word))
	}
	return l
}

// units are lists of zeros and a 1, as many as there are numbers in each.
func units(n int) [][]api.Rat {
	var z [][]api.Rat
	for i := range n {
		l := slices.Repeat(nums("0"), n)
		l[i] = num("1")
		z = append(z, l)
	}
	return z
}

// power2 is 2^n, over 1.
func power2(n int) api.Rat {
	p, e := natural.Shl(natural.From(1), n)
	if e != api.OK {
		panic(n)
	}
	return api.Rat{Num: p, Den: natural.From(1)}
}

// over is 1 over a number above 0.
func over(r api.Rat) api.Rat { return api.Rat{Num: r.Den, Den: r.Num} }

// Nodes by hand.
func in(a int) api.Op                 { return api.Op{Kind: api.OpInput, A: a} }
func constant(s string) api.Op        { return api.Op{Kind: api.OpConst, C: num(s)} }
func two(k api.Kind, a, b int) api.Op { return api.Op{Kind: k, A: a, B: b} }
func neg(a int) api.Op                { return api.Op{Kind: api.OpNeg, A: a} }
func pow(a, n int) api.Op             { return api.Op{Kind: api.OpPow, A: a, N: n} }

// must is the tape whose text has these lines, with ; between them.
func must(t *testing.T, text string) api.Tape {
	t.Helper()
	x, at, e := tape.Parse(strings.ReplaceAll(text, "; ", "\n") + "\n")
	if e != api.OK {
		t.Fatalf("tape.Parse(%q): place %d, error %d", short(text), at, e)
	}
	return x
}

// short is the beginning of a long message.
func short(s string) string {
	if len(s) > 400 {
		return s[:400] + fmt.Sprintf(".. (%d bytes)", len(s))
	}
	return s
}

// showTape is a tape for messages: its text, where it has one.
func showTape(t api.Tape) string {
	s, e := tape.Print(t)
	if e != api.OK {
		return short(fmt.Sprint(t))
	}
	return short(strings.ReplaceAll(s, "\n", "; "))
}

// show is a number; of one that may not be its lists.
func show(r api.Rat) string {
	s, e := rational.Print(r)
	if e != api.OK {
		return fmt.Sprintf("%v %x/%x", r.Neg, []uint32(r.Num), []uint32(r.Den))
	}
	return s
}

// row is numbers for comparing and for messages.
func row(l []api.Rat) string {
	var z []string
	for _, r := range l {
		z = append(z, show(r))
	}
	return strings.Join(z, " ")
}

// matrixText is a matrix: each entry with its place, row by row, and its size.
func matrixText(m api.Matrix) string {
	z := fmt.Sprintf("%d by %d |", m.P.Rows, m.P.Width)
	for r := range m.P.Rows {
		for i := m.P.Start[r]; i < m.P.Start[r+1]; i++ {
			z += fmt.Sprintf(" %d,%d: %s", r, m.P.Cols[i], show(m.Vals[i]))
		}
	}
	return z
}

// tape is one at random: inputs at several nodes or at none, and above nodes that hang on others, nodes at both places of others, nodes that are not live, outputs of all kinds.
func (d *dice) tape(most int) api.Tape {
	t := api.Tape{Inputs: pick(d, 0, 1, 2, 2, 3, 3, 4, 5, 6)}
	for n := 1 + pick(d, d.next(most), most/2+d.next(most-most/2)); len(t.Ops) < n; {
		t.Ops = append(t.Ops, d.op(t.Inputs, len(t.Ops)))
	}
	for n := 1 + d.next(5); len(t.Outs) < n; {
		// mostly late nodes, which hang on many
		t.Outs = append(t.Outs, len(t.Ops)-1-d.next(pick(d, 1, min(3, len(t.Ops)), len(t.Ops))))
	}
	return t
}

// op is a node at random behind so many others.
func (d *dice) op(inputs, ahead int) api.Op {
	kind := api.Kind(1 + d.next(8))
	if inputs > 0 && (kind == api.OpInput || kind == api.OpConst && d.next(2) > 0 || ahead < inputs && d.next(3) > 0) {
		return in(d.next(inputs))
	}
	if kind <= api.OpConst || ahead == 0 {
		return constant(pick(d, "0", "1", "-1", "2", "2/3", "-3/2", "7", "18446744073709551616/3"))
	}
	late := func() int { return ahead - 1 - d.next(pick(d, min(3, ahead), ahead)) }
	switch kind {
	case api.OpNeg:
		return neg(late())
	case api.OpPow:
		return pow(late(), pick(d, -3, -2, -1, 0, 1, 2, 3, 4))
	}
	a := late()
	return two(kind, a, pick(d, a, late(), late(), late()))
}

// point is one at random for so many inputs.
func (d *dice) point(n int) []api.Rat {
	var l []api.Rat
	for range n {
		l = append(l, num(pick(d, "0", "1", "-1", "2", "1/2", "-7/3", "5/4", "12345678901/7", fmt.Sprintf("%d/13", 1+13*d.next(100)))))
	}
	return l
}

// bigOf is a number in the library's form.
func bigOf(r api.Rat) *big.Rat {
	z := new(big.Rat).SetFrac(bigNat(r.Num), bigNat(r.Den))
	if r.Neg {
		z.Neg(z)
	}
	return z
}

// bigNat is a natural in the library's form.
func bigNat(n api.Nat) *big.Int {
	z := new(big.Int)
	for i := len(n) - 1; i >= 0; i-- {
		z.Lsh(z, 32).Or(z, big.NewInt(int64(n[i])))
	}
	return z
}

// ratOf is one of the library's numbers.
func ratOf(r *big.Rat) api.Rat {
	nat := func(n *big.Int) api.Nat {
		var z api.Nat
		for m := new(big.Int).Abs(n); m.Sign() > 0; m.Rsh(m, 32) {
			z = append(z, uint32(m.Uint64()))
		}
		return z
	}
	return api.Rat{Neg: r.Sign() < 0, Num: nat(r.Num()), Den: nat(r.Denom())}
}

// wrongNumbers are numbers that may not be.
func wrongNumbers() []api.Rat {
	return []api.Rat{
		{}, {Num: api.Nat{1}}, {Num: api.Nat{2}, Den: api.Nat{4}}, {Neg: true, Den: api.Nat{1}}, {Den: api.Nat{2}}, {Num: api.Nat{1, 0}, Den: api.Nat{1}}, {Num: api.Nat{1}, Den: api.Nat{3, 0}}, {Num: append(make(api.Nat, api.MaxLimbs), 1), Den: api.Nat{1}},
	}
}

// some is a list of so many things that are made one by one.
func some[T any](n int, f func(i int) T) []T {
	var l []T
	for i := range n {
		l = append(l, f(i))
	}
	return l
}

// shuffle is an order at random of n things.
func (d *dice) shuffle(n int) []int {
	l := some(n, func(i int) int { return i })
	for i := range l {
		k := d.next(i + 1)
		l[i], l[k] = l[k], l[i]
	}
	return l
}

// modes, routes, orders: all of them.
func modes() []api.Mode { return []api.Mode{api.ModeColumns, api.ModeRows, api.ModeDense} }
func routes() []api.Route {
	return []api.Route{api.RouteStar, api.RouteAcyclic, api.RoutePush, api.RouteDense}
}
func orders() []api.OrderKind {
	return []api.OrderKind{api.OrderNatural, api.OrderLargest, api.OrderSmallest, api.OrderIncidence, api.OrderScript}
}

// ordered tells whether a plan of this mode, of this route, uses an order.
func orderedMode(m api.Mode) bool   { return m == api.ModeColumns || m == api.ModeRows }
func orderedRoute(r api.Route) bool { return r == api.RouteStar || r == api.RouteAcyclic }

// jacobianPlans are plans for a tape's Jacobian: every mode with every order that it uses; the workers and what is not used are thrown.
func (d *dice) jacobianPlans(x api.Tape) []api.Plan {
	var l []api.Plan
	for _, m := range modes() {
		things := x.Inputs
		if m == api.ModeRows {
			things = len(x.Outs)
		}
		l = append(l, d.plansOf(api.Plan{Mode: m, Route: api.Route(d.next(9) - 2)}, orderedMode(m), things)...)
	}
	return l
}

// hessianPlans are plans for a tape's Hessian likewise.
func (d *dice) hessianPlans(x api.Tape) []api.Plan {
	var l []api.Plan
	for _, r := range routes() {
		l = append(l, d.plansOf(api.Plan{Route: r, Mode: api.Mode(d.next(9) - 2)}, orderedRoute(r), x.Inputs)...)
	}
	return l
}

// plansOf are a plan with every order, if it uses one, and scripts of so many things.
func (d *dice) plansOf(plan api.Plan, ordered bool, things int) []api.Plan {
	plan.Workers = 1 + d.next(api.MaxWorkers)
	if !ordered {
		plan.Order, plan.Script = api.OrderKind(d.next(9)-2), d.shuffle(d.next(4))
		return []api.Plan{plan}
	}
	var l []api.Plan
	for _, o := range orders() {
		plan.Order, plan.Script = o, d.shuffle(d.next(4))
		plan.Workers = 1 + d.next(api.MaxWorkers)
		if o == api.OrderScript {
			plan.Script = d.shuffle(things)
		}
		l = append(l, plan)
	}
	return l
}

// samePattern tells whether two patterns are alike.
func samePattern(p, q api.Pattern) bool {
	return p.Rows == q.Rows && p.Width == q.Width && slices.Equal(p.Start, q.Start) && slices.Equal(p.Cols, q.Cols)
}
