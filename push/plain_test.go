package push_test

import (
	"fmt"
	"math/big"
	"slices"
	"testing"

	"slope/api"
	"slope/push"
	"slope/rational"
	"slope/reach"
	"slope/tape"
)

// plain is a tape at a point with weights; what derivatives it needs come of polynomials in letters, without any rule.
type plain struct {
	x      api.Tape
	at, w  []api.Rat
	alive  []bool
	values []jet
}

// newPlain works the live nodes out, up to the least pole: its number, and whether there is one.
func newPlain(x api.Tape, at, w []api.Rat) (plain, int, bool) {
	p := plain{x: x, at: at, w: w, alive: make([]bool, len(x.Ops))}
	for n := range x.Ops {
		p.alive[n] = slices.ContainsFunc(x.Outs, func(out int) bool { return hangs(x, out, n) })
	}
	for n, op := range x.Ops {
		z := jetOf(new(big.Rat))
		if p.alive[n] {
			if isPole(op, p.values) {
				return plain{}, n, true
			}
			z = jetAt(op, p.values, at)
		}
		p.values = append(p.values, z)
	}
	return p, 0, false
}

// hangs tells whether a node hangs on another one.
func hangs(x api.Tape, n, on int) bool {
	for _, k := range operandsOf(x.Ops[n]) {
		if k >= on && hangs(x, k, on) {
			return true
		}
	}
	return n == on
}

// over is a node's jet where operand nodes a and b are moved by the two letters.
func (p plain) over(v, a, b int) jet {
	l := slices.Clone(p.values)
	l[a] = l[a].moved(1)
	l[b] = l[b].moved(2)
	return jetAt(p.x.Ops[v], l, p.at)
}

// cut is F where the nodes below upto stand at their values, and nodes a and b of them are moved by the two letters.
func (p plain) cut(upto, a, b int) jet {
	l := slices.Clone(p.values[:upto])
	l[a] = l[a].moved(1)
	l[b] = l[b].moved(2)
	for n := upto; n < len(p.x.Ops); n++ {
		z := jetOf(new(big.Rat))
		if p.alive[n] {
			z = jetAt(p.x.Ops[n], l, p.at)
		}
		l = append(l, z)
	}
	f := jetOf(new(big.Rat))
	for i, n := range p.x.Outs {
		f = f.plus(l[n].times(jetOf(bigOf(p.w[i]))), 1)
	}
	return f
}

// cutState is what P14.3 says of the state ahead of node upto.
func (p plain) cutState(upto int) string {
	var adjoints []*big.Rat
	var edges []api.Edge
	for a := range upto {
		adjoints = append(adjoints, p.cut(upto, a, a)[1])
		for b := a; b < upto; b++ {
			if z := p.cut(upto, a, b)[3]; z.Sign() != 0 {
				edges = append(edges, api.Edge{A: a, B: b, Val: ratOf(z)})
			}
		}
	}
	return stateText(ratsOf(adjoints), edges)
}

// plainBack is the way back, word by word: every pair of nodes has an edge in the map, or it is 0.
type plainBack struct {
	plain
	adjoints []*big.Rat
	edges    map[[2]int]*big.Rat
}

func (p plain) end() *plainBack {
	b := &plainBack{plain: p, edges: map[[2]int]*big.Rat{}}
	for n := range p.x.Ops {
		sum := new(big.Rat)
		for i, out := range p.x.Outs {
			if out == n {
				sum.Add(sum, bigOf(p.w[i]))
			}
		}
		b.adjoints = append(b.adjoints, sum)
	}
	return b
}

// edge is the number between two nodes, whichever is named first.
func (b *plainBack) edge(i, k int) *big.Rat {
	key := [2]int{min(i, k), max(i, k)}
	if b.edges[key] == nil {
		b.edges[key] = new(big.Rat)
	}
	return b.edges[key]
}

// grow adds the product of these numbers to the edge between two nodes.
func (b *plainBack) grow(i, k int, factors ...*big.Rat) {
	z := big.NewRat(1, 1)
	for _, f := range factors {
		z.Mul(z, f)
	}
	b.edge(i, k).Add(b.edge(i, k), z)
}

// do does a live node that is no input.
func (b *plainBack) do(v int) {
	operands := operandsOf(b.x.Ops[v])
	slices.Sort(operands)
	operands = slices.Compact(operands)
	partial := map[int]*big.Rat{}
	for _, a := range operands {
		partial[a] = b.over(v, a, a)[1]
	}
	for k := range b.x.Ops {
		if k == v || k > v && b.x.Ops[k].Kind != api.OpInput {
			continue
		}
		e := b.edge(v, k)
		for _, a := range operands {
			if a == k {
				b.grow(k, k, big.NewRat(2, 1), partial[a], e)
			} else {
				b.grow(a, k, partial[a], e)
			}
		}
	}
	for i, a := range operands {
		for _, c := range operands[i:] {
			b.grow(a, c, partial[a], partial[c], b.edge(v, v))
			b.grow(a, c, b.adjoints[v], b.over(v, a, c)[3])
		}
		b.adjoints[a].Add(b.adjoints[a], new(big.Rat).Mul(partial[a], b.adjoints[v]))
	}
	for k := range b.x.Ops {
		b.edge(v, k).SetInt64(0)
	}
}

// state is that ahead of node upto.
func (b *plainBack) state(upto int) string {
	var edges []api.Edge
	for i := range upto {
		for k := i; k < upto; k++ {
			if z := b.edge(i, k); z.Sign() != 0 {
				edges = append(edges, api.Edge{A: i, B: k, Val: ratOf(z)})
			}
		}
	}
	return stateText(ratsOf(b.adjoints[:upto]), edges)
}

// hessian and gradient are P14.4's and P14.5's sums, ahead of node 0.
func (b *plainBack) hessian() [][]*big.Rat {
	var z [][]*big.Rat
	for j := range b.x.Inputs {
		var l []*big.Rat
		for k := range b.x.Inputs {
			sum := new(big.Rat)
			for m, x := range b.x.Ops {
				for n, y := range b.x.Ops {
					if x.Kind == api.OpInput && y.Kind == api.OpInput && x.A == j && y.A == k {
						sum.Add(sum, b.edge(m, n))
					}
				}
			}
			l = append(l, sum)
		}
		z = append(z, l)
	}
	return z
}

func (b *plainBack) gradient() []*big.Rat {
	var z []*big.Rat
	for j := range b.x.Inputs {
		sum := new(big.Rat)
		for n, op := range b.x.Ops {
			if op.Kind == api.OpInput && op.A == j {
				sum.Add(sum, b.adjoints[n])
			}
		}
		z = append(z, sum)
	}
	return z
}

// hessianText is a full matrix on the pattern of reach; what is not 0 must be there.
func hessianText(t *testing.T, x api.Tape, full [][]*big.Rat) string {
	t.Helper()
	p, _, e := reach.Hessian(x)
	if e != api.OK {
		t.Fatalf("reach.Hessian: %d", e)
	}
	m := api.Matrix{P: p}
	for j := range full {
		row := p.Cols[p.Start[j]:p.Start[j+1]]
		for k, v := range full[j] {
			if slices.Contains(row, k) {
				m.Vals = append(m.Vals, ratOf(v))
			} else if v.Sign() != 0 {
				t.Errorf("(%d, %d) is %s, in no pattern: %s", j, k, v.RatString(), showTape(x))
			}
		}
	}
	return matrixText(m)
}

// fault is a place and an error.
type fault struct {
	place int
	e     api.Errno
}

// plainFault is the chapter's order of errors, word by word.
func plainFault(x api.Tape, at, w []api.Rat, upto int) fault {
	if place, e := tape.Check(x); e != api.OK {
		return fault{place, e}
	}
	if len(at) != x.Inputs {
		return fault{0, api.ErrPoint}
	}
	if i := slices.IndexFunc(at, wrong); i >= 0 {
		return fault{i, api.ErrRat}
	}
	if len(w) != len(x.Outs) {
		return fault{0, api.ErrWeights}
	}
	if i := slices.IndexFunc(w, wrong); i >= 0 {
		return fault{i, api.ErrRat}
	}
	if upto < 0 || upto > len(x.Ops) {
		return fault{0, api.ErrArg}
	}
	if n, found, _ := tape.LargeSum(x, at, nil, w); found {
		return fault{n, api.ErrLarge}
	}
	if _, n, found := newPlain(x, at, w); found {
		return fault{n, api.ErrPole}
	}
	return fault{}
}

func wrong(r api.Rat) bool { return !rational.May(r) }

// wantState fails if State answers anything else.
func wantState(t *testing.T, x api.Tape, at, w []api.Rat, upto int, want string) {
	t.Helper()
	adjoints, edges, place, e := push.State(x, at, w, upto)
	if got := stateText(adjoints, edges); got != want || place != 0 || e != api.OK || len(adjoints) != upto {
		t.Errorf("State ahead of %d: %s, place %d, error %d, want %s: %s", upto, short(got), place, e, short(want), showTape(x))
	}
}

// wantHessian fails if Hessian answers anything else.
func wantHessian(t *testing.T, x api.Tape, at, w []api.Rat, want string) {
	t.Helper()
	m, place, e := push.Hessian(x, at, w)
	if e != api.OK || place != 0 {
		t.Errorf("Hessian: place %d, error %d: %s", place, e, showTape(x))
		return
	}
	if got := matrixText(m); got != want {
		t.Errorf("Hessian: %s, want %s: %s", short(got), short(want), showTape(x))
	}
}

// wantGradient fails if Gradient answers anything else.
func wantGradient(t *testing.T, x api.Tape, at, w []api.Rat, want string) {
	t.Helper()
	l, place, e := push.Gradient(x, at, w)
	if got := row(l); got != want || place != 0 || e != api.OK || len(l) != x.Inputs {
		t.Errorf("Gradient: %s, place %d, error %d, want %s: %s", short(got), place, e, short(want), showTape(x))
	}
}

// wantFault fails if a call answers anything else than a fault, or something beside it. Hessian and Gradient have no upto: its fault is not theirs.
func wantFault(t *testing.T, x api.Tape, at, w []api.Rat, upto int, state, others fault) {
	t.Helper()
	adjoints, edges, place, e := push.State(x, at, w, upto)
	if (fault{place, e}) != state || len(adjoints)+len(edges) > 0 && e != api.OK {
		t.Errorf("State ahead of %d: %d adjoints, %d edges, %v, want %v: %s", upto, len(adjoints), len(edges), fault{place, e}, state, showTape(x))
	}
	m, place, e := push.Hessian(x, at, w)
	if (fault{place, e}) != others || e != api.OK && (m.P.Rows != 0 || m.P.Width != 0 || len(m.P.Start)+len(m.P.Cols)+len(m.Vals) > 0) {
		t.Errorf("Hessian: %v, %v, want %v: %s", m.P, fault{place, e}, others, showTape(x))
	}
	l, place, e := push.Gradient(x, at, w)
	if (fault{place, e}) != others || len(l) > 0 && e != api.OK {
		t.Errorf("Gradient: %d numbers, %v, want %v: %s", len(l), fault{place, e}, others, showTape(x))
	}
}

// wantFaults holds all calls' errors against the chapter's order.
func wantFaults(t *testing.T, x api.Tape, at, w []api.Rat, upto int) fault {
	t.Helper()
	f := plainFault(x, at, w, upto)
	wantFault(t, x, at, w, upto, f, plainFault(x, at, w, 0))
	return f
}

// wantPlain holds all calls against the plain ones, State ahead of every node; false, if they are refused.
func wantPlain(t *testing.T, x api.Tape, at, w []api.Rat) bool {
	t.Helper()
	if wantFaults(t, x, at, w, len(x.Ops)).e != api.OK {
		return false
	}
	p, _, _ := newPlain(x, at, w)
	b := p.end()
	wantState(t, x, at, w, len(x.Ops), b.state(len(x.Ops)))
	for v := len(x.Ops) - 1; v >= 0; v-- {
		if p.alive[v] && x.Ops[v].Kind != api.OpInput {
			b.do(v)
		}
		wantState(t, x, at, w, v, b.state(v))
	}
	wantHessian(t, x, at, w, hessianText(t, x, b.hessian()))
	wantGradient(t, x, at, w, row(ratsOf(b.gradient())))
	return true
}

// seen counts what random tapes have met.
type seen map[string]int

// look counts what a tape has that is answered.
func (s seen) look(p plain) {
	at := map[int]int{}
	hung := false // a node of an input stands ahead
	for n, op := range p.x.Ops {
		if op.Kind == api.OpInput {
			at[op.A]++
		}
		if !p.alive[n] {
			s["not live"]++
			continue
		}
		s[fmt.Sprint("kind ", op.Kind)]++
		if k := operandsOf(op); len(k) == 2 && k[0] == k[1] {
			s[fmt.Sprint("twice of kind ", op.Kind)]++
		}
		switch {
		case op.Kind == api.OpPow:
			s[fmt.Sprint("power ", op.N)]++
		case op.Kind == api.OpInput && hung:
			s["an input above"]++
		}
		hung = hung || op.Kind > api.OpConst && slices.ContainsFunc(p.x.Ops[:n], func(y api.Op) bool { return y.Kind == api.OpInput })
	}
	for i := range p.x.Inputs {
		s[fmt.Sprint("an input at ", min(at[i], 2))]++
	}
	for i, n := range p.x.Outs {
		if slices.Contains(p.x.Outs[:i], n) {
			s["an output twice"]++
		}
		if k := p.x.Ops[n].Kind; k <= api.OpConst {
			s[fmt.Sprint("an output of kind ", k)]++
		}
	}
	if p.x.Inputs == 0 {
		s["no inputs"]++
	}
}

// P14.1, P14.2, P14.4, P14.5: over tapes at random, ahead of every node, against the way back word by word.
func TestPlain(t *testing.T) {
	t.Parallel()
	d := dice(1)
	s := seen{}
	for i := range 5000 {
		x := d.tape(pick(&d, 6, 14, 14, 20))
		at, w := d.point(x.Inputs), d.point(len(x.Outs))
		if i%5 == 0 {
			w = pick(&d, units(len(x.Outs))...)
		}
		if wantPlain(t, x, at, w) {
			p, _, _ := newPlain(x, at, w)
			s.look(p)
			s["answered"]++
			continue
		}
		s[fmt.Sprint("error ", plainFault(x, at, w, 0).e)]++
	}
	want := map[string]int{"answered": 3000, "error 9": 100, "not live": 1000, "no inputs": 50, "an output twice": 50, "an output of kind 1": 50, "an output of kind 2": 50, "an input above": 300}
	for k := range 8 {
		want[fmt.Sprint("kind ", k+1)] = 100
	}
	for _, k := range []api.Kind{api.OpAdd, api.OpSub, api.OpMul, api.OpDiv} {
		want[fmt.Sprint("twice of kind ", k)] = 30
	}
	for n := -3; n <= 4; n++ {
		want[fmt.Sprint("power ", n)] = 20
	}
	for n := range 3 {
		want[fmt.Sprint("an input at ", n)] = 100
	}
	for what, n := range want {
		if s[what] < n {
			t.Errorf("%s: %d times, want %d", what, s[what], n)
		}
	}
}
