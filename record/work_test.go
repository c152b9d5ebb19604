package record_test

import (
	"fmt"
	"math"
	"strings"
	"testing"

	"slope/api"
	"slope/record"
)

// P6.1: each number's way, by its bits.
func TestWays(t *testing.T) {
	l := record.Ways()
	if len(l) != 8 {
		t.Fatalf("Ways: %d of them", len(l))
	}
	for n, way := range []api.Way{
		{}, {Copy: true}, {Balance: true}, {Copy: true, Balance: true},
		{Fold: true}, {Copy: true, Fold: true}, {Balance: true, Fold: true}, {Copy: true, Balance: true, Fold: true},
	} {
		if l[n] != way {
			t.Errorf("Ways: number %d is %v, want %v", n, l[n], way)
		}
		if got, e := record.WayOf(n); got != way || e != api.OK {
			t.Errorf("WayOf(%d): %v, error %d, want %v", n, got, e, way)
		}
	}
	for _, n := range []int{math.MinInt, -8, -1, 8, 9, 15, 16, math.MaxInt} {
		if got, e := record.WayOf(n); got != (api.Way{}) || e != api.ErrWay {
			t.Errorf("WayOf(%d): %v, error %d, want ErrWay", n, got, e)
		}
	}
	for i := range l[:cap(l)] {
		l[:cap(l)][i] = api.Way{Copy: true, Balance: true, Fold: true}
	}
	if again := record.Ways(); again[0] != (api.Way{}) {
		t.Error("Ways: an answer is kept")
	}
}

// P6.1: works by hand.
func TestWork(t *testing.T) {
	for _, c := range []struct {
		text           string
		shared, copied int
	}{
		{"in x\nfn f(a) = a * a\nfn g(a) = f(f(a))\nout g(x + 1)", 13, 13},
		{"in x\nfn f(a, b) = b\nout f(1 / 0, x)", 3, 3},
		{"in x\nlet u = x / 0\nout x", 1, 1},
		{"out 1", 1, 1},
		{"out sum()", 1, 1},
		{"in x\nout x, x, -x", 4, 4},
		{"in x\nlet u = x * x\nout u", 4, 4},
		{"in x\nlet u = x * x\nout u + u", 6, 9},
		{"in x\nlet u = x * x\nlet v = u + u\nout v, v, u", 9, 24},
		{"in x\nlet u = 7\nout u, u", 3, 4},
		// A parameter's kid is worked out once in a call, whatever it names.
		{"in x\nlet u = x * x\nfn f(a) = a + a\nout f(u)", 1 + 3 + 4, 1 + 3 + 4},
		{"in x\nlet u = x * x\nfn f(a) = a + a\nout f(u), f(u)", 8 + 5, 16},
		// What a parameter hands on to one to which nobody comes is not come to either.
		{"in x\nfn f(a) = 1\nfn g(a, b) = f(a) + b\nout g(x + x, x)", 1 + 1 + 2 + 1 + 1, 6},
		{"in x\nlet u = x\nfn f(a) = 1\nout f(u), u", 2 + 2, 4},
		{"fn f() = 2\nout f() + f()", 5, 5},
		{"in x\nfn f(x) = x * x\nout f(f(x))", 1 + 3 + 1 + 3 + 1, 9},
	} {
		wantWork(t, c.text, must(t, c.text), c.shared, c.copied)
	}
}

// longLets is a let of the sum of k ones and an output of n of it: a work of n * (k + 2) + 1, copied.
func longLets(k, n int) string {
	return fmt.Sprintf("let u = sum(%s)\nout sum(%s)", repeat("1", k), repeat("u", n))
}

// longCalls is n calls of a function that names its parameter k times: a work of n * (k + 3) + 1.
func longCalls(k, n int) string {
	return fmt.Sprintf("fn f(a) = sum(%s)\nout sum(%s)", repeat("a", k), repeat("f(1)", n))
}

// P6.1, P6.2: a work of MaxUnroll and one more, with Copy and without.
func TestMostWork(t *testing.T) {
	t.Parallel()
	const most = api.MaxUnroll
	fold, foldCopy := api.Way{Fold: true}, api.Way{Fold: true, Copy: true}

	m := must(t, longLets(255, 255))
	wantWork(t, "255 lets", m, 1+255+256, most)
	wantRecord(t, longLets(255, 255), foldCopy, "inputs 0; const 65025; out 0")
	m = must(t, longLets(254, 256))
	wantWork(t, "256 lets", m, 1+256+255, most+1)
	wantNoTape(t, "256 lets", m, foldCopy, 0, api.ErrNodes)
	wantRecord(t, longLets(254, 256), fold, "inputs 0; const 65024; out 0")
	wantValue(t, "256 lets", m, nil, "65024")

	m = must(t, longCalls(254, 255))
	wantWork(t, "255 calls", m, most, most)
	wantRecord(t, longCalls(254, 255), fold, "inputs 0; const 64770; out 0")
	wantRecord(t, longCalls(254, 255), foldCopy, "inputs 0; const 64770; out 0")
	wantValue(t, "255 calls", m, nil, "64770")
	m = must(t, longCalls(253, 256))
	wantWork(t, "256 calls", m, most+1, most+1)
	wantNoTape(t, "256 calls", m, fold, 0, api.ErrNodes)
	wantNoTape(t, "256 calls", m, foldCopy, 0, api.ErrNodes)
	wantNoValue(t, "256 calls", m, nil, 0, api.ErrNodes)
}

// doubled is a chain of lets or functions each of which has the one ahead of it twice.
func doubled(first, next, last string, n int) string {
	s := first
	for i := 1; i <= n; i++ {
		s += strings.NewReplacer("A", fmt.Sprint(i-1), "B", fmt.Sprint(i)).Replace(next)
	}
	return s + strings.ReplaceAll(last, "B", fmt.Sprint(n))
}

// P6.1: chains whose work would be huge are counted, not worked out.
func TestHugeWork(t *testing.T) {
	t.Parallel()
	for _, n := range []int{16, 63, 64, 65, 500, 1000} {
		lets := must(t, doubled("in x\nlet u0 = x\n", "let uB = uA + uA\n", "out uB", n))
		wantWork(t, fmt.Sprint(n, " lets"), lets, 2+3*n, api.MaxUnroll+1)
		wantNoTape(t, fmt.Sprint(n, " lets"), lets, api.Way{Copy: true}, 0, api.ErrNodes)
		if r, _, e := record.Record(lets, api.Way{}); e != api.OK || len(r.Ops) != n+1 {
			t.Errorf("%d lets: %d nodes, error %d", n, len(r.Ops), e)
		}
		if _, at, e := record.Flat(lets); at != 0 || e != api.ErrNodes {
			t.Errorf("Flat of %d lets: place %d, error %d", n, at, e)
		}
		calls := must(t, doubled("in x\nfn f0(a) = a\n", "fn fB(a) = fA(fA(a))\n", "out fB(x)", n))
		wantWork(t, fmt.Sprint(n, " functions"), calls, api.MaxUnroll+1, api.MaxUnroll+1)
		wantNoTape(t, fmt.Sprint(n, " functions"), calls, api.Way{}, 0, api.ErrNodes)
		wantNoValue(t, fmt.Sprint(n, " functions"), calls, nums("1"), 0, api.ErrNodes)
	}
	// Nobody comes to the huge one: it is not counted.
	idle := must(t, doubled("in x\nfn f0(a) = a\n", "fn fB(a) = fA(a) * fA(a)\n", "fn g(a, b) = a\nlet u = fB(x)\nout g(x, fB(u))", 100))
	wantWork(t, "an idle chain", idle, 3, 3)
	wantRecord(t, doubled("in x\nfn f0(a) = a\n", "fn fB(a) = fA(a) * fA(a)\n", "fn g(a, b) = a\nlet u = fB(x)\nout g(x, fB(u))", 100), api.Way{}, "inputs 1; in 0; out 0")
}

// identities is a function that hands its parameter on through 2^n calls: out fB(x) has the work 2^(n + 2) - 1.
func identities(n int, outs string) string {
	return doubled("in x\nfn f0(a) = a\n", "fn fB(a) = fA(fA(a))\n", outs, n)
}

// P6.1: calls within calls as deep as the work goes, and as a model goes.
func TestDeepWork(t *testing.T) {
	t.Parallel()
	m := must(t, identities(14, "out fB(x), x"))
	wantWork(t, "deep", m, api.MaxUnroll, api.MaxUnroll)
	for _, way := range record.Ways() {
		wantRecord(t, identities(14, "out fB(x), x"), way, "inputs 1; in 0; out 0; out 0")
		wantNoTape(t, "deeper", must(t, identities(14, "out fB(x), -x")), way, 0, api.ErrNodes)
	}
	wantValue(t, "deep", m, nums("-2/3"), "-2/3 -2/3")
	wantNoValue(t, "deeper", must(t, identities(14, "out fB(x), -x")), nums("1"), 0, api.ErrNodes)
	wantWork(t, "deeper", must(t, identities(14, "out fB(x), -x")), api.MaxUnroll+1, api.MaxUnroll+1)

	signs := api.Model{Inputs: []string{"x"}, Nodes: []api.Expr{{Kind: api.ExprName, Name: "x"}}}
	for i := range 2047 {
		signs.Nodes = append(signs.Nodes, api.Expr{Kind: api.ExprNeg, Kids: []int{i}})
	}
	signs.Outs = []int{2047}
	wantWork(t, "signs", signs, 2048, 2048)
	wantValue(t, "signs", signs, nums("3"), "-3")
	if r, _, e := record.Record(signs, api.Way{}); e != api.OK || len(r.Ops) != 2048 {
		t.Errorf("signs: %d nodes, error %d", len(r.Ops), e)
	}
}

// P6.1: a faulty model has Check's error, and no work.
func TestWorkFaults(t *testing.T) {
	for what, m := range faultyModels() {
		e := checkFault(t, what, m)
		for _, way := range record.Ways() {
			if n, f := record.Work(m, way); n != 0 || f != e {
				t.Errorf("Work(%s): %d, error %d, want error %d", what, n, f, e)
			}
		}
	}
}
