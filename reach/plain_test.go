package reach_test

import (
	"fmt"
	"math/big"
	"slices"
	"testing"

	"slope/api"
	"slope/reach"
	"slope/tape"
)

// plain is a tape with all that hangs on one another, found by following operands from each node.
type plain struct {
	x  api.Tape
	on [][]bool // of each node, which nodes it hangs on
	in [][]bool // of each node, which inputs it hangs on
}

func newPlain(x api.Tape) plain {
	p := plain{x: x}
	for n := range x.Ops {
		on, in := make([]bool, len(x.Ops)), make([]bool, x.Inputs)
		todo := []int{n}
		for len(todo) > 0 {
			k := todo[len(todo)-1]
			todo = todo[:len(todo)-1]
			if on[k] {
				continue
			}
			on[k] = true
			if x.Ops[k].Kind == api.OpInput {
				in[x.Ops[k].A] = true
			}
			todo = append(todo, operandsOf(x.Ops[k])...)
		}
		p.on, p.in = append(p.on, on), append(p.in, in)
	}
	return p
}

// live tells whether an output hangs on a node.
func (p plain) live(n int) bool {
	return slices.ContainsFunc(p.x.Outs, func(out int) bool { return p.on[out][n] })
}

// joins tells whether a node joins two inputs: the chapter's places, kind by kind.
func (p plain) joins(n, j, k int) bool {
	op := p.x.Ops[n]
	across := func(u, v int) bool { return p.in[u][j] && p.in[v][k] || p.in[u][k] && p.in[v][j] }
	switch op.Kind {
	case api.OpMul:
		return across(op.A, op.B)
	case api.OpDiv:
		return across(op.A, op.B) || across(op.B, op.B)
	case api.OpPow:
		return op.N != 0 && op.N != 1 && across(op.A, op.A)
	}
	return false
}

// bend is the least live node that joins two inputs.
func (p plain) bend(j, k int) (int, bool) {
	for n := range p.x.Ops {
		if p.live(n) && p.joins(n, j, k) {
			return n, true
		}
	}
	return 0, false
}

// joined is of each input with which inputs it is joined.
func (p plain) joined() [][]bool {
	live := make([]bool, len(p.x.Ops))
	for n := range p.x.Ops {
		live[n] = p.live(n)
	}
	z := make([][]bool, p.x.Inputs)
	for j := range z {
		z[j] = make([]bool, p.x.Inputs)
		for k := range z[j] {
			for n := 0; n < len(p.x.Ops) && !z[j][k]; n++ {
				z[j][k] = live[n] && p.joins(n, j, k)
			}
		}
	}
	return z
}

// outs is of each output which inputs it hangs on.
func (p plain) outs() [][]bool {
	var z [][]bool
	for _, n := range p.x.Outs {
		z = append(z, p.in[n])
	}
	return z
}

// linear is of each output whether it hangs on no node that joins any two inputs.
func (p plain) linear() []bool {
	var z []bool
	for _, out := range p.x.Outs {
		yes := true
		for n := range p.x.Ops {
			for j := range p.x.Inputs {
				for k := range p.x.Inputs {
					yes = yes && !(p.on[out][n] && p.joins(n, j, k))
				}
			}
		}
		z = append(z, yes)
	}
	return z
}

// degrees are the chapter's rules, in numbers that can get as great as they like, and what they count as.
func (p plain) degrees() []int {
	var l []*big.Int
	var z []int
	most := big.NewInt(1 << 40)
	for _, op := range p.x.Ops {
		d := p.degree(op, l)
		l = append(l, d)
		if d.Cmp(most) > 0 {
			d = most
		}
		z = append(z, int(d.Int64()))
	}
	return z
}

func (p plain) degree(op api.Op, l []*big.Int) *big.Int {
	none := big.NewInt(-1)
	if op.Kind == api.OpPow && op.N == 0 {
		return big.NewInt(0)
	}
	for _, k := range operandsOf(op) {
		if l[k].Sign() < 0 {
			return none
		}
	}
	free := func(n int) bool { return !slices.Contains(p.in[n], true) }
	switch {
	case op.Kind == api.OpInput:
		return big.NewInt(1)
	case op.Kind == api.OpConst:
		return big.NewInt(0)
	case op.Kind == api.OpAdd || op.Kind == api.OpSub:
		if l[op.A].Cmp(l[op.B]) < 0 {
			return l[op.B]
		}
		return l[op.A]
	case op.Kind == api.OpMul:
		return new(big.Int).Add(l[op.A], l[op.B])
	case op.Kind == api.OpNeg:
		return l[op.A]
	case op.Kind == api.OpDiv && free(op.B):
		return l[op.A]
	case op.Kind == api.OpPow && op.N > 0:
		return new(big.Int).Mul(big.NewInt(int64(op.N)), l[op.A])
	case op.Kind == api.OpPow && free(op.A):
		return big.NewInt(0)
	}
	return none
}

// ways are all ways to a node from nodes that are this input, each from its end on.
func (p plain) ways(n, input int) [][]int {
	if op := p.x.Ops[n]; op.Kind == api.OpInput && op.A == input {
		return [][]int{{n}}
	}
	var z [][]int
	for _, k := range operandsOf(p.x.Ops[n]) {
		for _, l := range p.ways(k, input) {
			z = append(z, append([]int{n}, l...))
		}
	}
	return z
}

// way is the one of all ways that goes down to the least node each time: the first of them, if they are put in order from their ends on.
func (p plain) way(out, input int) []int {
	l := p.ways(p.x.Outs[out], input)
	if len(l) == 0 {
		return nil
	}
	z := slices.MinFunc(l, slices.Compare)
	slices.Reverse(z)
	return z
}

// answer is what a call tells; no call tells all of it.
type answer struct {
	table api.Table
	pat   api.Pattern
	ints  []int
	bools []bool
	n     int
	is    bool
	place int
	e     api.Errno
}

// text is all of it, for comparing and for messages; nil and empty lists are the same.
func (a answer) text() string {
	return fmt.Sprint(a.table.Size, a.table.Sets, " ", a.pat.Rows, a.pat.Width, a.pat.Start, a.pat.Cols, " ", a.ints, a.bools, a.n, a.is, " place ", a.place, " error ", a.e)
}

// tableOf is a table of sets, written bit by bit.
func tableOf(size int, l [][]bool) answer {
	a := answer{table: api.Table{Size: size}}
	for _, r := range l {
		s := api.Set{Size: size, Words: make([]uint64, (size+63)/64)}
		for e, yes := range r {
			if yes {
				s.Words[e/64] |= 1 << (e % 64)
			}
		}
		a.table.Sets = append(a.table.Sets, s)
	}
	return a
}

// patternOf is a pattern, written row by row.
func patternOf(width int, l [][]bool) answer {
	p := api.Pattern{Rows: len(l), Width: width, Start: []int{0}}
	for _, r := range l {
		for c, yes := range r {
			if yes {
				p.Cols = append(p.Cols, c)
			}
		}
		p.Start = append(p.Start, len(p.Cols))
	}
	return answer{pat: p}
}

// held is what calls are given: those that take no numbers leave them.
type held struct {
	x    api.Tape
	a, b int
}

// call is a call, its plain one, and how many things its numbers count.
type call struct {
	name   string
	do     func(h held) answer
	want   func(p plain, h held) answer
	counts func(x api.Tape) (int, int)
}

// allCalls are all of them.
func allCalls() []call {
	return []call{
		{"Inputs", func(h held) (a answer) {
			a.table, a.place, a.e = reach.Inputs(h.x)
			return a
		}, func(p plain, h held) answer { return tableOf(p.x.Inputs, p.in) }, nil},
		{"Joins", func(h held) (a answer) {
			a.table, a.place, a.e = reach.Joins(h.x)
			return a
		}, func(p plain, h held) answer { return tableOf(p.x.Inputs, p.joined()) }, nil},
		{"Jacobian", func(h held) (a answer) {
			a.pat, a.place, a.e = reach.Jacobian(h.x)
			return a
		}, func(p plain, h held) answer { return patternOf(p.x.Inputs, p.outs()) }, nil},
		{"Hessian", func(h held) (a answer) {
			a.pat, a.place, a.e = reach.Hessian(h.x)
			return a
		}, func(p plain, h held) answer { return patternOf(p.x.Inputs, p.joined()) }, nil},
		{"Way", func(h held) (a answer) {
			a.ints, a.place, a.e = reach.Way(h.x, h.a, h.b)
			return a
		}, func(p plain, h held) answer { return answer{ints: p.way(h.a, h.b)} },
			func(x api.Tape) (int, int) { return len(x.Outs), x.Inputs }},
		{"Bend", func(h held) (a answer) {
			a.n, a.is, a.place, a.e = reach.Bend(h.x, h.a, h.b)
			return a
		}, func(p plain, h held) (a answer) {
			a.n, a.is = p.bend(h.a, h.b)
			return a
		}, func(x api.Tape) (int, int) { return x.Inputs, x.Inputs }},
		{"Degree", func(h held) (a answer) {
			a.ints, a.place, a.e = reach.Degree(h.x)
			return a
		}, func(p plain, h held) answer { return answer{ints: p.degrees()} }, nil},
		{"Linear", func(h held) (a answer) {
			a.bools, a.place, a.e = reach.Linear(h.x)
			return a
		}, func(p plain, h held) answer { return answer{bools: p.linear()} }, nil},
	}
}

// fault is the chapter's order of errors: of the tape first, then of the numbers.
func (c call) fault(h held) answer {
	if place, e := tape.Check(h.x); e != api.OK {
		return answer{place: place, e: e}
	}
	if c.counts != nil {
		if a, b := c.counts(h.x); h.a < 0 || h.a >= a || h.b < 0 || h.b >= b {
			return answer{e: api.ErrArg}
		}
	}
	return answer{}
}

// wantPlain holds a call against the plain one, errors too.
func wantPlain(t *testing.T, c call, p plain, h held) answer {
	t.Helper()
	want := c.fault(h)
	if want.e == api.OK {
		want = c.want(p, h)
	}
	got := c.do(h)
	if got.text() != want.text() {
		t.Errorf("%s(%d, %d): %s, want %s: %s", c.name, h.a, h.b, short(got.text()), short(want.text()), showTape(h.x))
	}
	return got
}

// wantAll holds all calls against the plain ones, those with numbers for all numbers that there are.
func wantAll(t *testing.T, x api.Tape) plain {
	t.Helper()
	p := newPlain(x)
	for _, c := range allCalls() {
		if c.counts == nil {
			wantPlain(t, c, p, held{x: x})
			continue
		}
		many, each := c.counts(x)
		for a := range many {
			for b := range each {
				wantPlain(t, c, p, held{x, a, b})
			}
		}
	}
	return p
}

// seen counts what tapes have met.
type seen map[string]int

// look counts what a tape has.
func (s seen) look(p plain) {
	s.nodes(p)
	if p.x.Inputs == 0 {
		s["no inputs"]++
	}
	for i, n := range p.x.Outs {
		if slices.Contains(p.x.Outs[:i], n) {
			s["an output twice"]++
		}
		if k := p.x.Ops[n].Kind; k <= api.OpConst {
			s[fmt.Sprint("an output of kind ", k)]++
		}
		for j := range p.x.Inputs {
			s[fmt.Sprint("ways: ", min(2, len(p.ways(n, j))))]++
		}
	}
	for j := range p.x.Inputs {
		at := 0
		for _, op := range p.x.Ops {
			if op.Kind == api.OpInput && op.A == j {
				at++
			}
		}
		s[fmt.Sprint("an input at ", min(at, 2))]++
		for k := range p.x.Inputs {
			_, found := p.bend(j, k)
			s[fmt.Sprint("joined: ", found, ", the same: ", j == k)]++
		}
	}
	for _, yes := range p.linear() {
		s[fmt.Sprint("linear: ", yes)]++
	}
}

// nodes counts what the nodes are.
func (s seen) nodes(p plain) {
	for n, op := range p.x.Ops {
		live := p.live(n)
		s[fmt.Sprint("kind ", op.Kind, ", live: ", live)]++
		k := operandsOf(op)
		if len(k) == 2 && k[0] == k[1] {
			s[fmt.Sprint("one node twice of kind ", op.Kind)]++
		}
		if op.Kind == api.OpPow {
			s[fmt.Sprint("power ", op.N)]++
		}
		for place, m := range k {
			s[fmt.Sprint("kind ", op.Kind, ", place ", place, ", hangs on an input: ", slices.Contains(p.in[m], true))]++
		}
		for j := range p.x.Inputs {
			if !live && p.joins(n, j, j) {
				s["a node that is not live joins"]++
			}
			if len(k) == 2 && k[0] != k[1] && p.in[k[0]][j] && p.in[k[1]][j] {
				s["both operands hang on an input"]++
			}
		}
	}
}

// want fails if something was met less often.
func (s seen) want(t *testing.T, times int, what ...string) {
	t.Helper()
	for _, w := range what {
		if s[w] < times {
			t.Errorf("%s: %d times, want %d", w, s[w], times)
		}
	}
}

// wantEvery fails if tapes of some kind were not met.
func (s seen) wantEvery(t *testing.T, times int, powers []int) {
	t.Helper()
	s.want(t, times, "no inputs", "an output twice", "an output of kind 1", "an output of kind 2", "a node that is not live joins", "both operands hang on an input")
	for n := range 3 {
		s.want(t, times, fmt.Sprint("ways: ", n), fmt.Sprint("an input at ", n))
	}
	for _, yes := range []bool{false, true} {
		s.want(t, times, fmt.Sprint("linear: ", yes), fmt.Sprint("joined: ", yes, ", the same: true"), fmt.Sprint("joined: ", yes, ", the same: false"))
		for k := api.OpInput; k <= api.OpPow; k++ {
			s.want(t, times, fmt.Sprint("kind ", k, ", live: ", yes))
		}
		for k := api.OpAdd; k <= api.OpDiv; k++ {
			s.want(t, times, fmt.Sprint("one node twice of kind ", k), fmt.Sprint("kind ", k, ", place 0, hangs on an input: ", yes), fmt.Sprint("kind ", k, ", place 1, hangs on an input: ", yes))
		}
		s.want(t, times, fmt.Sprint("kind 7, place 0, hangs on an input: ", yes), fmt.Sprint("kind 8, place 0, hangs on an input: ", yes))
	}
	for _, n := range powers {
		s.want(t, times, fmt.Sprint("power ", n))
	}
}

// P10.1 to P10.4: over tapes at random, all ways and all nodes of each.
func TestPlain(t *testing.T) {
	t.Parallel()
	d := dice(1)
	s := seen{}
	for range 2500 {
		s.look(wantAll(t, d.small(14, anyPowers()...)))
	}
	s.wantEvery(t, 100, anyPowers())
}

// P10.1 to P10.4: all tapes of two inputs and up to three nodes, with all outputs there are for one or two; of four nodes with the last two as outputs.
func TestAllSmall(t *testing.T) {
	for _, first := range nodesBehind(0) {
		t.Run("", func(t *testing.T) {
			t.Parallel()
			wantSmall(t, api.Tape{Inputs: 2, Ops: []api.Op{first}})
		})
	}
}

// wantSmall goes on from a tape to all that begin with it.
func wantSmall(t *testing.T, x api.Tape) {
	t.Helper()
	n := len(x.Ops)
	if n == 4 {
		x.Outs = []int{3, 2}
		wantAll(t, x)
		return
	}
	for a := range n {
		for b := a; b < n; b++ {
			x.Outs = []int{a, b}
			wantAll(t, x)
		}
		x.Outs = []int{a}
		wantAll(t, x)
	}
	for _, op := range nodesBehind(n) {
		wantSmall(t, api.Tape{Inputs: 2, Ops: append(slices.Clone(x.Ops), op)})
	}
}

// nodesBehind are all nodes behind so many others: inputs 0 and 1, a constant, each kind over all operands (a sum is like a difference), powers of each kind.
func nodesBehind(n int) []api.Op {
	l := []api.Op{in(0), in(1), constant("2")}
	for a := range n {
		for b := range n {
			l = append(l, two(api.OpSub, a, b), two(api.OpMul, a, b), two(api.OpDiv, a, b))
		}
		l = append(l, neg(a), pow(a, -1), pow(a, 0), pow(a, 1), pow(a, 2))
	}
	return l
}
