package record_test

import (
	"fmt"
	"slices"
	"strings"
	"testing"

	"slope/api"
	"slope/rational"
	"slope/record"
	"slope/tape"
)

// checkSame holds a tape's values at a point against a model's; it tells how that went.
func checkSame(t *testing.T, m api.Model, way api.Way, x api.Tape, at []api.Rat) string {
	t.Helper()
	if _, large, _ := tape.Large(x, at, nil); large {
		return "large"
	}
	want, _, e := record.Value(m, at)
	if e == api.ErrBig {
		return "big"
	}
	got, ok := tapeValues(x, at)
	if ok != (e == api.OK) || ok && !slices.Equal(got, texts(want)) {
		t.Fatalf("%s, %v at %s: the tape has %v, %v, the model %v, error %d", showModel(m), way, showRats(at), got, ok, texts(want), e)
	}
	if !ok {
		return "pole"
	}
	return "same"
}

// P6.6: all ways have the model's values and poles.
func TestEveryWay(t *testing.T) {
	t.Parallel()
	d := dice(21)
	met := map[string]int{}
	for _, m := range models(t, 6, 2000) {
		for _, way := range record.Ways() {
			x, _, e := record.Record(m, way)
			if e != api.OK {
				t.Fatalf("%s, %v: error %d", showModel(m), way, e)
			}
			for range 3 {
				met[checkSame(t, m, way, x, d.point(len(m.Inputs)))]++
			}
		}
	}
	if met["same"] < 10000 || met["pole"] < 5000 {
		t.Errorf("too little was met: %v", met)
	}
}

// fixedOperands tells whether a node works on constants alone.
func fixedOperands(x api.Tape, op api.Op) bool {
	switch op.Kind {
	case api.OpInput, api.OpConst:
		return false
	case api.OpNeg, api.OpPow:
		return x.Ops[op.A].Kind == api.OpConst
	}
	return x.Ops[op.A].Kind == api.OpConst && x.Ops[op.B].Kind == api.OpConst
}

// refused tells whether layer 2 answers no number to an operation over constants.
func refused(x api.Tape, op api.Op) bool {
	a, b := x.Ops[op.A].C, x.Ops[op.B].C
	e := api.OK
	switch op.Kind {
	case api.OpNeg:
		_, e = rational.Neg(a)
	case api.OpAdd:
		_, e = rational.Add(a, b)
	case api.OpSub:
		_, e = rational.Sub(a, b)
	case api.OpMul:
		_, e = rational.Mul(a, b)
	case api.OpDiv:
		_, e = rational.Div(a, b)
	case api.OpPow:
		_, e = rational.Pow(a, op.N)
	}
	return e != api.OK
}

// P6.6: all nodes are live but inputs; with Fold no constants meet but such as layer 2 refuses, and each stands once.
func TestTapesAreLean(t *testing.T) {
	t.Parallel()
	stay := 0
	for _, m := range models(t, 7, 2000) {
		for _, way := range record.Ways() {
			x, _, _ := record.Record(m, way)
			if at, e := tape.Check(x); e != api.OK {
				t.Fatalf("%s, %v: Check answers place %d, error %d", showModel(m), way, at, e)
			}
			alive, _ := tape.Live(x)
			uses, _ := tape.Uses(x)
			for i, op := range x.Ops {
				if i < len(m.Inputs) != (op.Kind == api.OpInput) || op.Kind == api.OpInput && op.A != i {
					t.Fatalf("%s, %v: inputs stand elsewhere", showModel(m), way)
				}
				if !alive[i] && op.Kind != api.OpInput {
					t.Fatalf("%s, %v: node %d is not live", showModel(m), way, i)
				}
				if !way.Fold {
					continue
				}
				if op.Kind == api.OpConst && uses[i] != 1 {
					t.Fatalf("%s, %v: constant %d stands %d times", showModel(m), way, i, uses[i])
				}
				if fixedOperands(x, op) {
					stay++
					if !refused(x, op) {
						t.Fatalf("%s, %v: node %d over constants", showModel(m), way, i)
					}
				}
			}
		}
	}
	if stay < 100 {
		t.Errorf("only %d operations over constants", stay)
	}
}

// P6.6: with Balance and Fold constants come together that Value can't bring together.
func TestBalanceFoldsMore(t *testing.T) {
	t.Parallel()
	// prod(b, 2, b, 1 / b)
	m := api.Model{Inputs: []string{"x"}, Outs: []int{4}}
	for _, c := range []api.Rat{power2(40000), num("2"), power2(40000), over(power2(40000))} {
		m.Nodes = append(m.Nodes, api.Expr{Kind: api.ExprNumber, Num: c})
	}
	m.Nodes = append(m.Nodes, api.Expr{Kind: api.ExprProd, Kids: []int{0, 1, 2, 3}})
	wantNoValue(t, "from the left", m, nums("1"), 0, api.ErrBig)
	r, _, e := record.Record(m, both)
	if want := (api.Tape{Inputs: 1, Ops: []api.Op{{Kind: api.OpInput}, {Kind: api.OpConst, C: power2(40001)}}, Outs: []int{1}}); e != api.OK || showTape(r) != showTape(want) {
		t.Errorf("%s, error %d", short(showTape(r)), e)
	}
	if r, _, e = record.Record(m, fold); e != api.OK || len(r.Ops) != 6 {
		t.Errorf("without Balance: %d nodes, error %d", len(r.Ops), e)
	}
}

// tape is one at random.
func (d *dice) tape() api.Tape {
	t := api.Tape{Inputs: d.next(4)}
	for n := 1 + d.next(12); len(t.Ops) < n; {
		t.Ops = append(t.Ops, d.op(t.Inputs, len(t.Ops)))
	}
	for n := 1 + d.next(3); len(t.Outs) < n; {
		t.Outs = append(t.Outs, len(t.Ops)-1-d.next(min(4, len(t.Ops))))
	}
	return t
}

// op is a node at random behind so many others.
func (d *dice) op(inputs, ahead int) api.Op {
	kind := api.Kind(1 + d.next(8))
	if kind == api.OpInput && inputs > 0 {
		return api.Op{Kind: kind, A: d.next(inputs)}
	}
	if kind <= api.OpConst || ahead == 0 {
		return api.Op{Kind: api.OpConst, C: num(pick(d, "0", "1", "-1", "2/3", "3", "-3/2"))}
	}
	switch kind {
	case api.OpNeg:
		return api.Op{Kind: kind, A: d.next(ahead)}
	case api.OpPow:
		return api.Op{Kind: kind, A: d.next(ahead), N: pick(d, -2, -1, 0, 1, 2)}
	}
	return api.Op{Kind: kind, A: d.next(ahead), B: d.next(ahead)}
}

// plainTell is the text of a tape's model.
func plainTell(x api.Tape) string {
	var lets []string
	word := func(n int) string {
		switch op := x.Ops[n]; op.Kind {
		case api.OpInput:
			return fmt.Sprintf("x%d", op.A)
		case api.OpConst:
			return "[" + bigOf(op.C).RatString() + "]"
		}
		return fmt.Sprintf("n%d", n)
	}
	for i, op := range x.Ops {
		switch op.Kind {
		case api.OpInput, api.OpConst:
		case api.OpNeg:
			lets = append(lets, fmt.Sprintf("let n%d = -%s\n", i, word(op.A)))
		case api.OpPow:
			lets = append(lets, fmt.Sprintf("let n%d = %s^%d\n", i, word(op.A), op.N))
		default:
			lets = append(lets, fmt.Sprintf("let n%d = %s %c %s\n", i, word(op.A), "+-*/"[op.Kind-api.OpAdd], word(op.B)))
		}
	}
	s := ""
	for i := range x.Inputs {
		s += fmt.Sprintf("in x%d\n", i)
	}
	s += strings.Join(lets, "")
	for _, n := range x.Outs {
		s += "out " + word(n) + "\n"
	}
	return s
}

// P6.5, P6.6: tapes told as models, and recorded again, have the tape's values.
func TestToldAndRecorded(t *testing.T) {
	t.Parallel()
	d := dice(22)
	met := map[string]int{}
	for range 3000 {
		x := d.tape()
		m, at, e := record.Tell(x)
		if at != 0 || e != api.OK || showModel(m) != showModel(must(t, plainTell(x))) {
			t.Fatalf("Tell(%s): %s, place %d, error %d", showTape(x), showModel(m), at, e)
		}
		point := d.point(x.Inputs)
		met[checkSame(t, m, api.Way{}, x, point)]++
		for _, way := range record.Ways() {
			again, _, f := record.Record(m, way)
			if f != api.OK {
				t.Fatalf("Record(Tell(%s), %v): error %d", showTape(x), way, f)
			}
			met[checkSame(t, m, way, again, point)]++
		}
	}
	if met["same"] < 10000 || met["pole"] < 2000 {
		t.Errorf("too little was met: %v", met)
	}
}

// P6.7: how deep sums and products of n inputs are, and how many nodes they have.
func TestTreesAreFlat(t *testing.T) {
	depth := map[int]int{1: 0}
	var names []string
	for n := 1; n <= api.MaxInputs; n++ {
		if n > 1 {
			depth[n] = 1 + depth[(n+1)/2]
		}
		names = append(names, fmt.Sprintf("a%d", n))
		for _, word := range []string{"sum", "prod"} {
			l := strings.Join(names, ", ")
			m := must(t, "in "+l+"\nout "+word+"("+l+")")
			for _, way := range record.Ways() {
				want := n - 1
				if way.Balance {
					want = depth[n]
				}
				x, _, e := record.Record(m, way)
				deep, _ := tape.Depth(x)
				if e != api.OK || len(x.Ops) != 2*n-1 || deep[x.Outs[0]] != want {
					t.Errorf("%s of %d, %v: %d nodes, depth %v, error %d, want depth %d", word, n, way, len(x.Ops), deep, e, want)
				}
				if uses, _ := tape.Uses(x); slices.Max(uses) != 1 || slices.Min(uses) != 1 {
					t.Errorf("%s of %d, %v: uses %d", word, n, way, uses)
				}
			}
		}
	}
	if depth[64] != 6 || depth[33] != 6 || depth[32] != 5 {
		t.Errorf("depths %v", depth)
	}
}

// P6.7: a let that is named often is recorded once without Copy.
func TestLetsOnce(t *testing.T) {
	for n := 1; n < 40; n++ {
		m := must(t, fmt.Sprintf("in x\nlet u = x^3\nout sum(%s), u", repeat("u", n)))
		for _, way := range record.Ways() {
			want := 1
			if way.Copy {
				want = n + 1
			}
			got := 0
			x, _, _ := record.Record(m, way)
			for _, op := range x.Ops {
				if op.Kind == api.OpPow {
					got++
				}
			}
			if got != want {
				t.Errorf("named %d times, %v: %d powers, want %d", n+1, way, got, want)
			}
		}
	}
}
