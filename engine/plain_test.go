package engine_test

import (
	"fmt"
	"math/big"
	"slices"
	"testing"

	"slope/api"
	"slope/colour"
	"slope/engine"
	"slope/order"
	"slope/rational"
	"slope/reach"
	"slope/sparse"
	"slope/tape"
)

// jet is a node's value, its derivatives by the inputs, and its second ones.
type jet struct {
	v *big.Rat
	g []*big.Rat
	h [][]*big.Rat
}

// newJet is a constant's.
func newJet(v *big.Rat, inputs int) jet {
	zeros := func() []*big.Rat { return some(inputs, func(int) *big.Rat { return new(big.Rat) }) }
	return jet{v: v, g: zeros(), h: some(inputs, func(int) []*big.Rat { return zeros() })}
}

// product is that of many numbers.
func product(l ...*big.Rat) *big.Rat {
	z := big.NewRat(1, 1)
	for _, x := range l {
		z.Mul(z, x)
	}
	return z
}

// addTo adds to a number.
func addTo(z *big.Rat, l ...*big.Rat) {
	for _, x := range l {
		z.Add(z, x)
	}
}

// powerOf is a number to a power; of 0 just to one that is not below 0.
func powerOf(a *big.Rat, n int) *big.Rat {
	z := big.NewRat(1, 1)
	for range max(n, -n) {
		z.Mul(z, a)
	}
	if n < 0 {
		z.Inv(z)
	}
	return z
}

// partials are a node's value and, of chapter 7's table, its derivatives by A, B, A A, A B, B B.
func partials(op api.Op, a, b *big.Rat) [6]*big.Rat {
	n := func(i int64) *big.Rat { return big.NewRat(i, 1) }
	switch op.Kind {
	case api.OpAdd:
		return [6]*big.Rat{new(big.Rat).Add(a, b), n(1), n(1), n(0), n(0), n(0)}
	case api.OpSub:
		return [6]*big.Rat{new(big.Rat).Sub(a, b), n(1), n(-1), n(0), n(0), n(0)}
	case api.OpMul:
		return [6]*big.Rat{product(a, b), b, a, n(0), n(1), n(0)}
	case api.OpDiv:
		over := new(big.Rat).Inv(b)
		return [6]*big.Rat{product(a, over), over, product(n(-1), a, over, over), n(0), product(n(-1), over, over), product(n(2), a, over, over, over)}
	case api.OpNeg:
		return [6]*big.Rat{new(big.Rat).Neg(a), n(-1), n(0), n(0), n(0), n(0)}
	}
	first, second := n(0), n(0)
	if op.N != 0 {
		first = product(n(int64(op.N)), powerOf(a, op.N-1))
	}
	if op.N != 0 && op.N != 1 {
		second = product(n(int64(op.N)*int64(op.N-1)), powerOf(a, op.N-2))
	}
	return [6]*big.Rat{powerOf(a, op.N), first, n(0), second, n(0), n(0)}
}

// through is the jet of a node over those of its operands.
func through(op api.Op, a, b jet) jet {
	f := partials(op, a.v, b.v)
	z := newJet(f[0], len(a.g))
	for j := range z.g {
		addTo(z.g[j], product(f[1], a.g[j]), product(f[2], b.g[j]))
		for k := range z.g {
			addTo(z.h[j][k], product(f[1], a.h[j][k]), product(f[2], b.h[j][k]), product(f[3], a.g[j], a.g[k]),
				product(f[4], a.g[j], b.g[k]), product(f[4], b.g[j], a.g[k]), product(f[5], b.g[j], b.g[k]))
		}
	}
	return z
}

// isPole tells whether a node is one over these operands.
func isPole(op api.Op, a, b jet) bool {
	return op.Kind == api.OpDiv && b.v.Sign() == 0 || op.Kind == api.OpPow && op.N < 0 && a.v.Sign() == 0
}

// plainLive marks what the outputs hang on.
func plainLive(x api.Tape) []bool {
	live := make([]bool, len(x.Ops))
	var mark func(n int)
	mark = func(n int) {
		if live[n] {
			return
		}
		live[n] = true
		switch op := x.Ops[n]; op.Kind {
		case api.OpAdd, api.OpSub, api.OpMul, api.OpDiv:
			mark(op.A)
			mark(op.B)
		case api.OpNeg, api.OpPow:
			mark(op.A)
		}
	}
	for _, n := range x.Outs {
		mark(n)
	}
	return live
}

// jets are those of the live nodes; or the least pole, and true.
func jets(x api.Tape, at []api.Rat) ([]jet, int, bool) {
	l := make([]jet, len(x.Ops))
	for n, live := range plainLive(x) {
		if !live {
			continue
		}
		switch op := x.Ops[n]; op.Kind {
		case api.OpInput:
			l[n] = newJet(bigOf(at[op.A]), x.Inputs)
			l[n].g[op.A].SetInt64(1)
		case api.OpConst:
			l[n] = newJet(bigOf(op.C), x.Inputs)
		default:
			a, b := l[op.A], newJet(new(big.Rat), x.Inputs)
			if op.Kind != api.OpNeg && op.Kind != api.OpPow {
				b = l[op.B]
			}
			if isPole(op, a, b) {
				return nil, n, true
			}
			l[n] = through(op, a, b)
		}
	}
	return l, 0, false
}

// fault is a place and an error.
type fault struct {
	place int
	e     api.Errno
}

// listFault is the first fault of a list of numbers.
func listFault(l []api.Rat, length int, unlike api.Errno) fault {
	if len(l) != length {
		return fault{0, unlike}
	}
	for i, r := range l {
		if !rational.May(r) {
			return fault{i, api.ErrRat}
		}
	}
	return fault{}
}

// given is the first fault of tape, point and, of Hessians, weights.
func given(x api.Tape, at, w []api.Rat, weighted bool) fault {
	if place, e := tape.Check(x); e != api.OK {
		return fault{place, e}
	}
	if f := listFault(at, x.Inputs, api.ErrPoint); f.e != api.OK || !weighted {
		return f
	}
	return listFault(w, len(x.Outs), api.ErrWeights)
}

// comesTo is the outcome of what may be.
func comesTo(x api.Tape, at, w []api.Rat) ([]jet, fault) {
	if n, large, _ := tape.LargeSum(x, at, nil, w); large {
		return nil, fault{n, api.ErrLarge}
	}
	l, n, pole := jets(x, at)
	if pole {
		return nil, fault{n, api.ErrPole}
	}
	return l, fault{}
}

// all1 are weights of 1.
func all1(x api.Tape) []api.Rat { return slices.Repeat(nums("1"), len(x.Outs)) }

// planFault is the first fault of a plan, by the section 'Words'; things is how many are coloured.
func planFault(plan api.Plan, second, workers bool, things int) api.Errno {
	ordered := orderedMode(plan.Mode)
	if second {
		ordered = orderedRoute(plan.Route)
	}
	switch {
	case !second && !slices.Contains(modes(), plan.Mode):
		return api.ErrMode
	case second && !slices.Contains(routes(), plan.Route):
		return api.ErrRoute
	case ordered && !slices.Contains(orders(), plan.Order):
		return api.ErrOrderKind
	case workers && (plan.Workers < 1 || plan.Workers > 16):
		return api.ErrWorkers
	case ordered && plan.Order == api.OrderScript && !isOrder(plan.Script, things):
		return api.ErrOrder
	}
	return api.OK
}

// isOrder tells whether each of n things stands in a list just once.
func isOrder(l []int, n int) bool {
	sorted := slices.Sorted(slices.Values(l))
	return slices.Equal(sorted, some(n, func(i int) int { return i }))
}

// coloured is how many things a Jacobian's mode colours.
func coloured(x api.Tape, m api.Mode) int {
	if m == api.ModeRows {
		return len(x.Outs)
	}
	return x.Inputs
}

// meet is the graph of the columns of a pattern that have a place in one row.
func meet(p api.Pattern) api.Pattern {
	var rs, cs []int
	for u := range p.Width {
		for v := range p.Width {
			for r := range p.Rows {
				if u != v && sparse.Has(p, r, u) && sparse.Has(p, r, v) {
					rs, cs = append(rs, u), append(cs, v)
				}
			}
		}
	}
	g, _ := sparse.Build(p.Width, p.Width, rs, cs)
	return g
}

// part is a graph's vertices that are in a list, in that order, with the places among them.
func part(g api.Pattern, list []int) api.Pattern {
	var rs, cs []int
	for i, u := range list {
		for k, v := range list {
			if sparse.Has(g, u, v) {
				rs, cs = append(rs, i), append(cs, k)
			}
		}
	}
	p, _ := sparse.Build(len(list), len(list), rs, cs)
	return p
}

// plainGreedy colours a graph's vertices in an order, each with the least colour with which colour's checker finds no fault in what is coloured.
func plainGreedy(kind api.ColourKind, g api.Pattern, list []int) ([]int, int) {
	colours, most := make([]int, len(list)), 0
	for i, v := range list {
		ahead := list[:i+1]
		for {
			l := some(i+1, func(k int) int { return colours[ahead[k]] })
			if colour.Check(kind, part(g, ahead), l) == api.OK {
				break
			}
			colours[v]++
		}
		most = max(most, colours[v]+1)
	}
	return colours, most
}

// planOrder is a plan's order of a graph.
func planOrder(plan api.Plan, g api.Pattern) []int {
	switch plan.Order {
	case api.OrderNatural:
		return some(g.Rows, func(i int) int { return i })
	case api.OrderScript:
		return plan.Script
	}
	l, _ := order.Order(plan.Order, g, nil)
	return l
}

// plainColours are a Jacobian's, of a plan that may be.
func plainColours(x api.Tape, plan api.Plan) ([]int, int) {
	p, _, _ := reach.Jacobian(x)
	switch plan.Mode {
	case api.ModeDense:
		return some(x.Inputs, func(j int) int { return j }), x.Inputs
	case api.ModeRows:
		p, _ = sparse.Turn(p)
	}
	g := meet(p)
	return plainGreedy(api.ColourProper, g, planOrder(plan, g))
}

// plainHessianColours are a Hessian's.
func plainHessianColours(x api.Tape, plan api.Plan) ([]int, int) {
	p, _, _ := reach.Hessian(x)
	g, _ := sparse.Graph(p)
	switch plan.Route {
	case api.RouteStar:
		return plainGreedy(api.ColourStar, g, planOrder(plan, g))
	case api.RouteAcyclic:
		return plainGreedy(api.ColourAcyclic, g, planOrder(plan, g))
	case api.RouteDense:
		return some(x.Inputs, func(j int) int { return j }), x.Inputs
	}
	return nil, 0
}

// on is the matrix of numbers on a pattern.
func on(p api.Pattern, f func(i, j int) *big.Rat) api.Matrix {
	m := api.Matrix{P: p}
	for i := range p.Rows {
		for _, j := range p.Cols[p.Start[i]:p.Start[i+1]] {
			m.Vals = append(m.Vals, ratOf(f(i, j)))
		}
	}
	return m
}

// answerText is an answer of Jacobian or Hessian.
func answerText(m api.Matrix, sweeps, place int, e api.Errno) string {
	s := fmt.Sprintf("%d sweeps, place %d, error %d", sweeps, place, e)
	if e == api.OK || m.P.Start != nil || m.Vals != nil || m.P.Rows != 0 || m.P.Width != 0 {
		if !sparse.MayMatrix(m) {
			return s + fmt.Sprint(" no matrix ", m.P, row(m.Vals))
		}
		s += ", " + matrixText(m)
	}
	return s
}

// faultText is that of one that is refused.
func faultText(f fault) string { return answerText(api.Matrix{}, 0, f.place, f.e) }

// plainJacobian is Jacobian's answer.
func plainJacobian(x api.Tape, at []api.Rat, plan api.Plan) (string, api.Errno) {
	f := given(x, at, nil, false)
	if f.e == api.OK {
		f = fault{0, planFault(plan, false, true, coloured(x, plan.Mode))}
	}
	var l []jet
	if f.e == api.OK {
		l, f = comesTo(x, at, all1(x))
	}
	if f.e != api.OK {
		return faultText(f), f.e
	}
	p, _, _ := reach.Jacobian(x)
	_, sweeps := plainColours(x, plan)
	m := on(p, func(i, j int) *big.Rat { return l[x.Outs[i]].g[j] })
	return answerText(m, sweeps, 0, api.OK), api.OK
}

// plainHessian is Hessian's answer.
func plainHessian(x api.Tape, at, w []api.Rat, plan api.Plan) (string, api.Errno) {
	f := given(x, at, w, true)
	if f.e == api.OK {
		f = fault{0, planFault(plan, true, true, x.Inputs)}
	}
	var l []jet
	if f.e == api.OK {
		l, f = comesTo(x, at, w)
	}
	if f.e != api.OK {
		return faultText(f), f.e
	}
	p, _, _ := reach.Hessian(x)
	_, sweeps := plainHessianColours(x, plan)
	if plan.Route == api.RoutePush {
		sweeps = 1
	}
	m := on(p, func(j, k int) *big.Rat {
		z := new(big.Rat)
		for i, n := range x.Outs {
			addTo(z, product(bigOf(w[i]), l[n].h[j][k]))
		}
		return z
	})
	return answerText(m, sweeps, 0, api.OK), api.OK
}

// plainValues is Values' answer.
func plainValues(x api.Tape, at []api.Rat) (string, fault) {
	f := given(x, at, nil, false)
	var l []jet
	if f.e == api.OK {
		l, f = comesTo(x, at, all1(x))
	}
	if f.e != api.OK {
		return "", f
	}
	return row(some(len(x.Outs), func(i int) api.Rat { return ratOf(l[x.Outs[i]].v) })), f
}

// wantJacobian fails if Jacobian answers anything but what the plain one does; its error.
func wantJacobian(t *testing.T, x api.Tape, at []api.Rat, plan api.Plan) api.Errno {
	t.Helper()
	want, e := plainJacobian(x, at, plan)
	if got := answerText(engine.Jacobian(x, at, plan)); got != want {
		t.Errorf("Jacobian: %s, want %s: %s at %s, plan %v", short(got), short(want), showTape(x), short(row(at)), plan)
	}
	return e
}

// wantHessian fails if Hessian does so; its error.
func wantHessian(t *testing.T, x api.Tape, at, w []api.Rat, plan api.Plan) api.Errno {
	t.Helper()
	want, e := plainHessian(x, at, w, plan)
	if got := answerText(engine.Hessian(x, at, w, plan)); got != want {
		t.Errorf("Hessian: %s, want %s: %s at %s, weights %s, plan %v", short(got), short(want), showTape(x), short(row(at)), short(row(w)), plan)
	}
	return e
}

// wantOutcomes fails if Values, Outcome or OutcomeWith answers anything but the plain outcomes; that of the weights.
func wantOutcomes(t *testing.T, x api.Tape, at, w []api.Rat) fault {
	t.Helper()
	want, f := plainValues(x, at)
	l, place, e := engine.Values(x, at)
	if (fault{place, e}) != f || row(l) != want || e != api.OK && l != nil {
		t.Errorf("Values: %s, place %d, error %d; want %s, %v: %s", short(row(l)), place, e, short(want), f, showTape(x))
	}
	if place, e := engine.Outcome(x, at); (fault{place, e}) != f {
		t.Errorf("Outcome: place %d, error %d; want %v: %s", place, e, f, showTape(x))
	}
	f = given(x, at, w, true)
	if f.e == api.OK {
		_, f = comesTo(x, at, w)
	}
	if place, e := engine.OutcomeWith(x, at, w); (fault{place, e}) != f {
		t.Errorf("OutcomeWith: place %d, error %d; want %v: %s", place, e, f, showTape(x))
	}
	return f
}

// wantColours fails if Colours or HessianColours answers anything but the plain ones.
func wantColours(t *testing.T, x api.Tape, plan api.Plan) {
	t.Helper()
	for _, c := range []struct {
		name   string
		second bool
		things int
		plain  func(x api.Tape, plan api.Plan) ([]int, int)
		call   func(x api.Tape, plan api.Plan) ([]int, int, api.Errno)
	}{
		{"Colours", false, coloured(x, plan.Mode), plainColours, engine.Colours},
		{"HessianColours", true, x.Inputs, plainHessianColours, engine.HessianColours},
	} {
		_, want := tape.Check(x)
		if want == api.OK {
			want = planFault(plan, c.second, false, c.things)
		}
		var l []int
		n := 0
		if want == api.OK {
			l, n = c.plain(x, plan)
		}
		if got, m, e := c.call(x, plan); !slices.Equal(got, l) || m != n || e != want {
			t.Errorf("%s: %v, %d, error %d; want %v, %d, %d: %s, plan %v", c.name, got, m, e, l, n, want, showTape(x), plan)
		}
	}
}
