package record_test

import (
	"fmt"
	"math/big"
	"strings"
	"testing"

	"slope/api"
	"slope/formula"
	"slope/natural"
	"slope/rational"
	"slope/record"
	"slope/tape"
)

// dice throws numbers that are the same in every run.
type dice uint64

func (d *dice) next(n int) int {
	*d = *d*6364136223846793005 + 1442695040888963407
	return int(uint32(*d>>32)) % n
}

// pick is one of a list.
func pick[T any](d *dice, l ...T) T { return l[d.next(len(l))] }

// num reads a number.
func num(s string) api.Rat {
	r, _, e := rational.Parse(s)
	if e != api.OK {
		panic(s)
	}
	return r
}

// nums reads numbers that blanks stand between.
func nums(s string) []api.Rat {
	var l []api.Rat
	for _, word := range strings.Fields(s) {
		l = append(l, num(word))
	}
	return l
}

// power2 is 2^n, over 1.
func power2(n int) api.Rat {
	p, e := natural.Shl(natural.From(1), n)
	if e != api.OK {
		panic(n)
	}
	return api.Rat{Num: p, Den: natural.From(1)}
}

// over is 1 over a number above 0.
func over(r api.Rat) api.Rat { return api.Rat{Num: r.Den, Den: r.Num} }

// repeat is a text so many times, with a comma between.
func repeat(s string, n int) string {
	return strings.TrimSuffix(strings.Repeat(s+", ", n), ", ")
}

// must reads a model's text that is one.
func must(t *testing.T, text string) api.Model {
	t.Helper()
	m, at, e := formula.Parse(text)
	if e != api.OK {
		t.Fatalf("Parse(%q): place %d, error %d", short(text), at, e)
	}
	return m
}

// mustTape reads a tape's lines, with ; between them.
func mustTape(t *testing.T, text string) api.Tape {
	t.Helper()
	x, at, e := tape.Parse(strings.ReplaceAll(text, "; ", "\n") + "\n")
	if e != api.OK {
		t.Fatalf("tape.Parse(%q): place %d, error %d", short(text), at, e)
	}
	return x
}

// short is the beginning of a long message.
func short(s string) string {
	if len(s) > 400 {
		return s[:400] + fmt.Sprintf(".. (%d bytes)", len(s))
	}
	return s
}

// showRats are numbers for comparing and for messages.
func showRats(l []api.Rat) string {
	var s strings.Builder
	for _, r := range l {
		fmt.Fprintf(&s, "%v %x/%x; ", r.Neg, []uint32(r.Num), []uint32(r.Den))
	}
	return s.String()
}

// showTape is a tape for comparing and for messages: nil and empty lists are the same.
func showTape(t api.Tape) string {
	var s strings.Builder
	fmt.Fprintf(&s, "inputs %d nodes", t.Inputs)
	for i, op := range t.Ops {
		fmt.Fprintf(&s, " %d(%d %d %d %d %s)", i, op.Kind, op.A, op.B, op.N, showRats([]api.Rat{op.C}))
	}
	fmt.Fprintf(&s, " outs %d", t.Outs)
	return s.String()
}

// showModel is a model for comparing and for messages: nil and empty lists are the same.
func showModel(m api.Model) string {
	var s strings.Builder
	fmt.Fprintf(&s, "inputs %q funcs", m.Inputs)
	for _, f := range m.Funcs {
		fmt.Fprintf(&s, " %q%q:%d", f.Name, f.Params, f.Body)
	}
	s.WriteString(" lets")
	for _, l := range m.Lets {
		fmt.Fprintf(&s, " %q:%d", l.Name, l.Body)
	}
	fmt.Fprintf(&s, " outs %d nodes", m.Outs)
	for i, x := range m.Nodes {
		fmt.Fprintf(&s, " %d(%d %q %s %d %d)", i, x.Kind, x.Name, showRats([]api.Rat{x.Num}), x.N, x.Kids)
	}
	return s.String()
}

// wantRecord fails if a model's tape in a way is not that of these lines.
func wantRecord(t *testing.T, text string, way api.Way, want string) {
	t.Helper()
	r, at, e := record.Record(must(t, text), way)
	if e != api.OK || at != 0 {
		t.Errorf("Record(%q, %v): place %d, error %d", text, way, at, e)
		return
	}
	s, _ := tape.Print(r)
	if s = strings.ReplaceAll(strings.TrimSuffix(s, "\n"), "\n", "; "); s != want {
		t.Errorf("Record(%q, %v): %s, want %s", text, way, s, want)
	}
}

// wantNoTape fails if Record answers anything but this error at this place.
func wantNoTape(t *testing.T, what string, m api.Model, way api.Way, at int, e api.Errno) {
	t.Helper()
	r, place, f := record.Record(m, way)
	if place != at || f != e || showTape(r) != showTape(api.Tape{}) {
		t.Errorf("Record(%s, %v): %s, place %d, error %d, want place %d, error %d", what, way, short(showTape(r)), place, f, at, e)
	}
}

// wantValue fails if the values are others.
func wantValue(t *testing.T, what string, m api.Model, at []api.Rat, want string) {
	t.Helper()
	l, place, e := record.Value(m, at)
	if place != 0 || e != api.OK || showRats(l) != showRats(nums(want)) {
		t.Errorf("Value(%s): %s, place %d, error %d, want %s", what, short(showRats(l)), place, e, want)
	}
}

// wantNoValue fails if Value answers anything but this error at this place.
func wantNoValue(t *testing.T, what string, m api.Model, at []api.Rat, place int, e api.Errno) {
	t.Helper()
	l, p, f := record.Value(m, at)
	if p != place || f != e || len(l) != 0 {
		t.Errorf("Value(%s): %s, place %d, error %d, want place %d, error %d", what, short(showRats(l)), p, f, place, e)
	}
}

// wantWork fails if the works without Copy and with it are others.
func wantWork(t *testing.T, what string, m api.Model, shared, copied int) {
	t.Helper()
	for _, way := range record.Ways() {
		want := shared
		if way.Copy {
			want = copied
		}
		if n, e := record.Work(m, way); n != want || e != api.OK {
			t.Errorf("Work(%s, %v): %d, error %d, want %d", what, way, n, e, want)
		}
	}
}

// bigOf is a number in the library's form.
func bigOf(r api.Rat) *big.Rat {
	z := new(big.Rat).SetFrac(bigNat(r.Num), bigNat(r.Den))
	if r.Neg {
		z.Neg(z)
	}
	return z
}

// bigNat is a natural in the library's form.
func bigNat(n api.Nat) *big.Int {
	z := new(big.Int)
	for i := len(n) - 1; i >= 0; i-- {
		z.Lsh(z, 32).Or(z, big.NewInt(int64(n[i])))
	}
	return z
}

// bigPow is a power, nil below 0 of 0.
func bigPow(x *big.Rat, n int) *big.Rat {
	if n < 0 {
		if x.Sign() == 0 {
			return nil
		}
		return bigPow(new(big.Rat).Inv(x), -n)
	}
	z := big.NewRat(1, 1)
	for range n {
		z.Mul(z, x)
	}
	return z
}

// bigOp is what an operation makes, nil at a pole.
func bigOp(k api.Kind, n int, a, b *big.Rat) *big.Rat {
	z := new(big.Rat)
	switch k {
	case api.OpNeg:
		return z.Neg(a)
	case api.OpAdd:
		return z.Add(a, b)
	case api.OpSub:
		return z.Sub(a, b)
	case api.OpMul:
		return z.Mul(a, b)
	case api.OpPow:
		return bigPow(a, n)
	}
	if b.Sign() == 0 {
		return nil
	}
	return z.Quo(a, b)
}

// tapeValues are a tape's outputs at a point; false, if a live node has a pole there.
func tapeValues(t api.Tape, at []api.Rat) ([]string, bool) {
	alive, _ := tape.Live(t)
	l := make([]*big.Rat, len(t.Ops))
	for i, op := range t.Ops {
		if !alive[i] {
			continue
		}
		switch op.Kind {
		case api.OpInput:
			l[i] = bigOf(at[op.A])
		case api.OpConst:
			l[i] = bigOf(op.C)
		default:
			l[i] = bigOp(op.Kind, op.N, l[op.A], l[op.B])
		}
		if l[i] == nil {
			return nil, false
		}
	}
	var out []string
	for _, n := range t.Outs {
		out = append(out, l[n].RatString())
	}
	return out, true
}

// texts are numbers as the library prints them.
func texts(l []api.Rat) []string {
	var z []string
	for _, r := range l {
		z = append(z, bigOf(r).RatString())
	}
	return z
}

// point is one at random for so many inputs.
func (d *dice) point(n int) []api.Rat {
	var l []api.Rat
	for range n {
		l = append(l, num(pick(d, "0", "1", "-1", "2", "1/2", "-7/3", "5", "-12345678901/7")))
	}
	return l
}

// expr is an expression at random, of so many levels at most.
func (d *dice) expr(deep int, names []string, funcs []string) string {
	kid := func() string { return d.expr(deep-1-d.next(2), names, funcs) }
	if deep <= 0 || d.next(6) == 0 {
		if len(names) == 0 || d.next(3) == 0 {
			return pick(d, "0", "1", "2", "3", "0.5", "[-1]", "[-2/3]", "[7/4]")
		}
		return pick(d, names...)
	}
	switch d.next(8) {
	case 0:
		return "-" + "(" + kid() + ")"
	case 1:
		return "(" + kid() + ")^" + pick(d, "-2", "-1", "0", "1", "2", "3")
	case 2, 3:
		l := []string{}
		for range pick(d, 0, 1, 2, 3, 3, 4, 5) {
			l = append(l, kid())
		}
		return pick(d, "sum", "prod") + "(" + strings.Join(l, ", ") + ")"
	case 4, 5:
		if len(funcs) > 0 {
			return d.call(pick(d, funcs...), kid)
		}
	}
	return "(" + kid() + ")" + pick(d, " + ", " - ", " * ", " * ", " / ") + "(" + kid() + ")"
}

// call is a call of a function whose name ends in its number of parameters.
func (d *dice) call(f string, kid func() string) string {
	l := []string{}
	for range int(f[len(f)-1] - '0') {
		l = append(l, kid())
	}
	return f + "(" + strings.Join(l, ", ") + ")"
}

// text is a model at random, with functions, lets and outputs that use one another.
func (d *dice) text() string {
	var s strings.Builder
	names := []string{"x", "y", "z"}[:d.next(4)]
	if len(names) > 0 {
		fmt.Fprintf(&s, "in %s\n", strings.Join(names, ", "))
	}
	var funcs []string
	for i := range d.next(4) {
		// Parameters are called like inputs and lets, too.
		params := []string{"x", "b", "u0"}[:d.next(4)]
		f := fmt.Sprintf("f%d_%d", i, len(params))
		fmt.Fprintf(&s, "fn %s(%s) = %s\n", f, strings.Join(params, ", "), d.expr(2+d.next(2), params, funcs))
		funcs = append(funcs, f)
	}
	for i := range d.next(4) {
		fmt.Fprintf(&s, "let u%d = %s\n", i, d.expr(2+d.next(2), names, funcs))
		names = append(names[:len(names):len(names)], fmt.Sprintf("u%d", i))
	}
	for range 1 + d.next(3) {
		fmt.Fprintf(&s, "out %s\n", d.expr(2+d.next(3), names, funcs))
	}
	return s.String()
}

// wrongNumbers are numbers that may not be.
func wrongNumbers() []api.Rat {
	return []api.Rat{
		{}, {Num: api.Nat{1}}, {Num: api.Nat{2}, Den: api.Nat{4}}, {Neg: true, Den: api.Nat{1}}, {Den: api.Nat{2}}, {Num: api.Nat{1, 0}, Den: api.Nat{1}}, {Num: api.Nat{1}, Den: api.Nat{3, 0}}, {Num: append(make(api.Nat, api.MaxLimbs), 1), Den: api.Nat{1}},
	}
}
