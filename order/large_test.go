package order_test

import (
	"testing"

	"slope/api"
	"slope/order"
)

// P11.1 to P11.3: graphs of every kind of MaxSide vertices, and of one less: every call against the plain one.
func TestLargest(t *testing.T) {
	d := dice(41)
	for _, n := range []int{api.MaxSide - 1, api.MaxSide} {
		for what, s := range d.graphs(n) {
			h := held{g: s.pattern(), list: (*dice).shuffled(new(dice(len(what))), n), n: n}
			t.Run(what, func(t *testing.T) {
				t.Parallel()
				for _, kind := range allKinds() {
					h := h
					h.kind = kind
					wantPlain(t, allCalls()[0], h)
				}
				for _, c := range allCalls()[1:] {
					wantPlain(t, c, h)
				}
			})
		}
	}
}

// P11.2, P11.3: what some graphs of MaxSide vertices are worth, by hand.
func TestLargestByHand(t *testing.T) {
	n := api.MaxSide
	full := joined(n, func(_, _ int) bool { return true })
	for what, c := range map[string]struct {
		s sheet
		m int
	}{
		"no edges":  {blank(n), 0},
		"all edges": {full, n - 1},
		"a path":    {joined(n, func(u, v int) bool { return v == u+1 }), 1},
		"a circle":  {joined(n, func(u, v int) bool { return v == u+1 || v == u+n-1 }), 2},
		"a star":    {joined(n, func(u, _ int) bool { return u == 0 }), 1},
		"two sides": {joined(n, func(u, v int) bool { return u < n/2 && v >= n/2 }), n / 2},
		"a grid":    {joined(n, func(u, v int) bool { return v == u+8 || v == u+1 && v%8 > 0 }), 2},
	} {
		if m, _ := worth(t, c.s); m != c.m {
			t.Errorf("%s: Degeneracy %d, want %d", what, m, c.m)
		}
	}
	m, backs, e := order.Back(full.pattern(), upTo(n))
	for v, b := range backs {
		if b != v {
			t.Errorf("all edges: back of %d: %d", v, b)
		}
	}
	if m != n-1 || e != api.OK || len(backs) != n {
		t.Errorf("all edges: back %d, error %d", m, e)
	}
}
