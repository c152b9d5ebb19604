package sweep_test

import (
	"fmt"
	"math/big"
	"slices"
	"testing"

	"slope/api"
	"slope/rational"
	"slope/sweep"
	"slope/tape"
)

// nobody is the number of no node.
const nobody = -1

// plain is a tape at a point, worked out in polynomials of letters, without any rule of derivatives.
type plain struct {
	x     api.Tape
	at    []api.Rat
	alive []bool
}

func newPlain(x api.Tape, at []api.Rat) plain {
	alive := make([]bool, len(x.Ops))
	for n := range x.Ops {
		alive[n] = slices.ContainsFunc(x.Outs, func(out int) bool { return hangs(x, out, n) })
	}
	return plain{x, at, alive}
}

// hangs tells whether a node hangs on another one.
func hangs(x api.Tape, n, on int) bool {
	for _, k := range operandsOf(x.Ops[n]) {
		if k >= on && hangs(x, k, on) {
			return true
		}
	}
	return n == on
}

// pole is the least one.
func (p plain) pole() (int, bool) {
	r := letters()
	for n, z := range r.run(p.x, r.line(p.at, nil, 0), nobody) {
		if p.alive[n] && z == nil {
			return n, true
		}
	}
	return 0, false
}

// column is one coefficient of each node, 0 of one that is not live.
func (p plain) column(l []jet, letter int) string {
	var z []*big.Rat
	for n := range l {
		c := new(big.Rat)
		if p.alive[n] {
			c = l[n][letter]
		}
		z = append(z, c)
	}
	return bigRow(z)
}

// outs is one coefficient of each output.
func (p plain) outs(l []jet, letter int) string {
	var z []*big.Rat
	for _, n := range p.x.Outs {
		z = append(z, l[n][letter])
	}
	return bigRow(z)
}

// sum is one coefficient of the outputs' sum with weights.
func (p plain) sum(l []jet, letter int, w []api.Rat) *big.Rat {
	z := new(big.Rat)
	for i, n := range p.x.Outs {
		z.Add(z, new(big.Rat).Mul(bigOf(w[i]), l[n][letter]))
	}
	return z
}

func (p plain) nodes() string {
	r := letters()
	return p.column(r.run(p.x, r.line(p.at, nil, 0), nobody), 0)
}

func (p plain) values() string {
	r := letters()
	return p.outs(r.run(p.x, r.line(p.at, nil, 0), nobody), 0)
}

func (p plain) tangents(v []api.Rat) string {
	r := letters()
	return p.column(r.run(p.x, r.line(p.at, v, 1), nobody), 1)
}

func (p plain) forward(v []api.Rat) string {
	r := letters()
	return p.outs(r.run(p.x, r.line(p.at, v, 1), nobody), 1)
}

// adjoints: each node is moved, one after the other.
func (p plain) adjoints(w []api.Rat) string {
	r := letters()
	var z []*big.Rat
	for n := range p.x.Ops {
		c := new(big.Rat)
		if p.alive[n] {
			c = p.sum(r.run(p.x, r.line(p.at, nil, 0), n), 1, w)
		}
		z = append(z, c)
	}
	return bigRow(z)
}

func (p plain) reverse(w []api.Rat) string {
	r := letters()
	var z []*big.Rat
	for _, v := range units(p.x.Inputs) {
		z = append(z, p.sum(r.run(p.x, r.line(p.at, v, 1), nobody), 1, w))
	}
	return bigRow(z)
}

func (p plain) second(w, v []api.Rat) string {
	r := letters()
	var z []*big.Rat
	for j := range p.x.Inputs {
		inputs := r.line(p.at, v, 2)
		inputs[j][1].SetInt64(1)
		z = append(z, p.sum(r.run(p.x, inputs, nobody), 3, w))
	}
	return bigRow(z)
}

// fault is a place and an error.
type fault struct {
	place int
	e     api.Errno
}

func (f fault) String() string { return fmt.Sprintf("place %d, error %d", f.place, f.e) }

// call is what a call is given beside the tape and the point.
type call struct {
	x        api.Tape
	at       []api.Rat
	w, along [][]api.Rat
}

// plainFault is the chapter's order of errors, word by word; of second order there is just one list of weights.
func plainFault(c call) fault {
	if place, e := tape.Check(c.x); e != api.OK {
		return fault{place, e}
	}
	if len(c.at) != c.x.Inputs {
		return fault{0, api.ErrPoint}
	}
	if i := slices.IndexFunc(c.at, wrong); i >= 0 {
		return fault{i, api.ErrRat}
	}
	if f := plainLists(c.w, len(c.x.Outs), api.ErrWeights); f.e != api.OK {
		return f
	}
	if f := plainLists(c.along, c.x.Inputs, api.ErrSeeds); f.e != api.OK {
		return f
	}
	if f := plainLarge(c); f.e != api.OK {
		return f
	}
	if n, found := newPlain(c.x, c.at).pole(); found {
		return fault{n, api.ErrPole}
	}
	return fault{}
}

func wrong(r api.Rat) bool { return !rational.May(r) }

func plainLists(l [][]api.Rat, length int, unlike api.Errno) fault {
	if len(l) > 64 {
		return fault{64, api.ErrSeeds}
	}
	for i := range l {
		if len(l[i]) != length {
			return fault{i, unlike}
		}
		if slices.ContainsFunc(l[i], wrong) {
			return fault{i, api.ErrRat}
		}
	}
	return fault{}
}

func plainLarge(c call) fault {
	if n, found, _ := tape.Large(c.x, c.at, nil); found {
		return fault{n, api.ErrLarge}
	}
	for _, w := range c.w {
		if n, found, _ := tape.LargeSum(c.x, c.at, nil, w); found {
			return fault{n, api.ErrLarge}
		}
	}
	for _, v := range c.along {
		n, found, _ := tape.Large(c.x, c.at, v)
		if len(c.w) > 0 {
			n, found, _ = tape.LargeSum(c.x, c.at, v, c.w[0])
		}
		if found {
			return fault{n, api.ErrLarge}
		}
	}
	return fault{}
}

// none fails if an answer beside an error is anything but empty, or the error another one.
func none(t *testing.T, what string, x api.Tape, got string, place int, e api.Errno, want fault) {
	t.Helper()
	if place != want.place || e != want.e || want.e != api.OK && got != "" {
		t.Errorf("%s: %s, place %d, error %d, want %v: %s", what, short(got), place, e, want, showTape(x))
	}
}

// wantFaults holds all calls' errors against the chapter's order; a list of weights and a direction for those that take one are the first ones.
func wantFaults(t *testing.T, x api.Tape, at []api.Rat, w, along [][]api.Rat) {
	t.Helper()
	f := plainFault(call{x: x, at: at})
	l, place, e := sweep.Nodes(x, at)
	none(t, "Nodes", x, row(l), place, e, f)
	l, place, e = sweep.Values(x, at)
	none(t, "Values", x, row(l), place, e, f)
	wantPole(t, x, at, f)
	d, place, e := sweep.Forward(x, at, along)
	none(t, "Forward", x, rows(d), place, e, plainFault(call{x: x, at: at, along: along}))
	d, place, e = sweep.Reverse(x, at, w)
	none(t, "Reverse", x, rows(d), place, e, plainFault(call{x: x, at: at, w: w}))
	if len(along) > 0 {
		l, place, e = sweep.Tangents(x, at, along[0])
		none(t, "Tangents", x, row(l), place, e, plainFault(call{x: x, at: at, along: along[:1]}))
	}
	if len(w) > 0 {
		l, place, e = sweep.Adjoints(x, at, w[0])
		none(t, "Adjoints", x, row(l), place, e, plainFault(call{x: x, at: at, w: w[:1]}))
		d, place, e = sweep.Second(x, at, w[0], along)
		none(t, "Second", x, rows(d), place, e, plainFault(call{x: x, at: at, w: w[:1], along: along}))
	}
}

// wantPole fails if Pole answers something else than what the other calls meet.
func wantPole(t *testing.T, x api.Tape, at []api.Rat, f fault) {
	t.Helper()
	n, found, place, e := sweep.Pole(x, at)
	got := fmt.Sprint(n, found, place, e)
	want := fmt.Sprint(0, false, f.place, f.e)
	if f.e == api.ErrPole {
		want = fmt.Sprint(f.place, true, 0, api.OK)
	}
	if got != want {
		t.Errorf("Pole: %s, want %s: %s", got, want, showTape(x))
	}
}

// wantPlain holds all calls' answers against the plain ones; false, if something is refused.
func wantPlain(t *testing.T, x api.Tape, at []api.Rat, w, along [][]api.Rat) bool {
	t.Helper()
	wantFaults(t, x, at, w, along)
	all := call{x: x, at: at, w: w, along: along}
	if plainFault(call{x: x, at: at}).e != api.OK {
		return false
	}
	p := newPlain(x, at)
	l, place, e := sweep.Nodes(x, at)
	wantRow(t, "Nodes of "+showTape(x), l, place, e, p.nodes())
	l, place, e = sweep.Values(x, at)
	wantRow(t, "Values of "+showTape(x), l, place, e, p.values())
	if plainFault(all).e != api.OK {
		return false
	}
	var want []string
	for _, v := range along {
		want = append(want, p.forward(v))
		l, place, e = sweep.Tangents(x, at, v)
		wantRow(t, "Tangents of "+showTape(x), l, place, e, p.tangents(v))
	}
	d, place, e := sweep.Forward(x, at, along)
	wantRows(t, "Forward of "+showTape(x), d, place, e, want...)
	wantPlainReverse(t, p, w, along)
	return true
}

// wantPlainReverse is the half of wantPlain that goes downwards.
func wantPlainReverse(t *testing.T, p plain, w, along [][]api.Rat) {
	t.Helper()
	var want []string
	for i := range w {
		want = append(want, p.reverse(w[i]))
		l, place, e := sweep.Adjoints(p.x, p.at, w[i])
		wantRow(t, "Adjoints of "+showTape(p.x), l, place, e, p.adjoints(w[i]))
	}
	d, place, e := sweep.Reverse(p.x, p.at, w)
	wantRows(t, "Reverse of "+showTape(p.x), d, place, e, want...)
	for i := range w {
		if plainFault(call{x: p.x, at: p.at, w: w[i : i+1], along: along}).e != api.OK {
			continue
		}
		want = nil
		for _, v := range along {
			want = append(want, p.second(w[i], v))
		}
		d, place, e = sweep.Second(p.x, p.at, w[i], along)
		wantRows(t, "Second of "+showTape(p.x), d, place, e, want...)
	}
}

// seen counts what random tapes have met.
type seen map[string]int

// look counts what a tape has.
func (s seen) look(p plain) {
	at := map[int]int{}
	for n, op := range p.x.Ops {
		if op.Kind == api.OpInput {
			at[op.A]++
		}
		if !p.alive[n] {
			s["not live"]++
			continue
		}
		s[fmt.Sprint("kind ", op.Kind)]++
		if k := operandsOf(op); len(k) == 2 && k[0] == k[1] {
			s[fmt.Sprint("twice of kind ", op.Kind)]++
		}
		if op.Kind == api.OpPow {
			s[fmt.Sprint("power ", op.N)]++
		}
	}
	for i := range p.x.Inputs {
		s[fmt.Sprint("an input at ", min(at[i], 2))]++
	}
	for i, n := range p.x.Outs {
		if slices.Contains(p.x.Outs[:i], n) {
			s["an output twice"]++
		}
		if k := p.x.Ops[n].Kind; k <= api.OpConst {
			s[fmt.Sprint("an output of kind ", k)]++
		}
	}
	r := letters()
	for n, z := range r.run(p.x, r.line(p.at, nil, 0), nobody) {
		if z == nil && !p.alive[n] {
			s["a pole that is not live"]++
		}
	}
	if p.x.Inputs == 0 {
		s["no inputs"]++
	}
}

// P7.1 to P7.4: over tapes at random, against polynomials in letters.
func TestPlain(t *testing.T) {
	t.Parallel()
	d := dice(1)
	s := seen{}
	for i := range 1500 {
		x := d.tape(14)
		at := d.point(x.Inputs)
		w, along := d.points(d.next(3), len(x.Outs)), d.points(d.next(3), x.Inputs)
		if i%5 == 0 {
			w, along = units(len(x.Outs)), units(x.Inputs)
		}
		if wantPlain(t, x, at, w, along) {
			s.look(newPlain(x, at))
			s["answered"]++
		} else {
			s[fmt.Sprint("error ", plainFault(call{x: x, at: at}).e)]++
		}
	}
	want := map[string]int{"answered": 700, "error 9": 100, "not live": 1000, "a pole that is not live": 50, "no inputs": 50, "an output twice": 50, "an output of kind 1": 50, "an output of kind 2": 50}
	for k := range 8 {
		want[fmt.Sprint("kind ", k+1)] = 100
	}
	for _, k := range []api.Kind{api.OpAdd, api.OpSub, api.OpMul, api.OpDiv} {
		want[fmt.Sprint("twice of kind ", k)] = 20
	}
	for n := -3; n <= 4; n++ {
		want[fmt.Sprint("power ", n)] = 10
	}
	for n := range 3 {
		want[fmt.Sprint("an input at ", n)] = 100
	}
	for what, n := range want {
		if s[what] < n {
			t.Errorf("%s: %d times, want %d", what, s[what], n)
		}
	}
}
