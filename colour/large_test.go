package colour_test

import (
	"fmt"
	"testing"

	"slope/api"
	"slope/colour"
)

// P12.1 to P12.5: graphs and patterns of every sort with MaxSide things, and with one less: every call but Greedy against the plain one, with good colours, nearly good ones and poor ones.
func TestLargest(t *testing.T) {
	t.Parallel()
	for _, n := range []int{api.MaxSide - 1, api.MaxSide} {
		for _, kind := range allKinds() {
			t.Run(fmt.Sprint(n, ", kind ", kind), func(t *testing.T) {
				t.Parallel()
				d := dice(51)
				for _, s := range d.sorts(kind, n) {
					wantAllCalls(t, &d, kind, s)
				}
			})
		}
	}
}

// wantAllCalls fails if a call but Greedy tells another thing than the plain one.
func wantAllCalls(t *testing.T, d *dice, kind api.ColourKind, s sheet) {
	t.Helper()
	n := s.things(kind)
	h := held{kind: kind, p: s.pattern(), list: d.shuffled(n)}
	for _, name := range []string{"Columns", "Rows", "Near", "Bound", "Floor", "Least"} {
		wantPlain(t, callOf(name), h)
	}
	good, _ := greedy(t, kind, h.p, h.list)
	high := make([]int, n)
	for v, k := range good {
		high[v] = api.MaxColour - k
	}
	for _, h.colours = range [][]int{good, high, d.swapped(good), d.swapped(high), d.someColours(n, 3), d.someColours(n, 90), upTo(n), make([]int, n)} {
		wantPlain(t, callOf("Classes"), h)
		fault := wantPlain(t, callOf("Fault"), h)
		if e := colour.Check(kind, h.p, h.colours); (e == api.OK) != (len(fault.list) == 0) || e != api.OK && e != api.ErrColouring {
			t.Fatalf("Check: error %d, Fault %v", e, fault.list)
		}
	}
}

// P12.3: what is known of graphs of MaxSide vertices, in the order of their numbers.
func TestLargestByHand(t *testing.T) {
	n := api.MaxSide
	sides := joined(n, func(u, v int) bool { return u < n/2 && v >= n/2 })
	odd := joined(n, func(u, v int) bool { return v < n-1 && (v == u+1 || v == u+n-2) })
	for _, x := range []struct {
		what                  string
		s                     sheet
		proper, star, acyclic int
	}{
		{"no edges", blank(n), 1, 1, 1},
		{"all edges", full(n), n, n, n},
		{"a path", path(n), 2, 3, 2},
		{"a circle", circle(n), 2, 3, 3},
		{"an odd circle", odd, 3, 3, 3},
		{"a star", starOf(n), 2, 2, 2},
		{"two sides", sides, 2, n/2 + 1, n/2 + 1},
	} {
		for i, want := range []int{x.proper, x.star, x.acyclic} {
			if _, m := greedy(t, graphKinds()[i], x.s.pattern(), upTo(n)); m != want {
				t.Errorf("%s, kind %d: %d colours, want %d", x.what, graphKinds()[i], m, want)
			}
		}
	}
	for rows, want := range map[int]int{0: 1, 1: n, n: n} {
		s := where(rows, n, func(_, _ int) bool { return true })
		l, m := greedy(t, api.ColourColumns, s.pattern(), upTo(n))
		wantList(t, "all columns", l, api.OK, append(upTo(want), make([]int, n-want)...)...)
		wantNumber(t, "all columns", m, api.OK, want)
		l, m = greedy(t, api.ColourRows, s.turned().pattern(), upTo(n))
		wantList(t, "all rows", l, api.OK, append(upTo(want), make([]int, n-want)...)...)
		wantNumber(t, "all rows", m, api.OK, want)
		floor, e := colour.Floor(api.ColourColumns, s.pattern())
		wantNumber(t, "Floor", floor, e, want)
	}
}
