package order_test

import (
	"slices"
	"testing"

	"slope/api"
	"slope/order"
)

// wantList fails if a kind's order is not this, or there is an error.
func wantList(t *testing.T, what string, kind api.OrderKind, s sheet, want ...int) {
	t.Helper()
	l, e := order.Order(kind, s.pattern(), nil)
	if e != api.OK || !slices.Equal(l, want) {
		t.Errorf("%s: kind %d: %v, error %d, want %v", what, kind, l, e, want)
	}
}

// wantWorth fails if Degeneracy tells another number or other cores.
func wantWorth(t *testing.T, what string, s sheet, n int, cores ...int) {
	t.Helper()
	m, l, e := order.Degeneracy(s.pattern())
	if e != api.OK || m != n || !slices.Equal(l, cores) {
		t.Errorf("%s: Degeneracy: %d, %v, error %d, want %d, %v", what, m, l, e, n, cores)
	}
}

// wantBacks fails if an order's backs are not these.
func wantBacks(t *testing.T, what string, s sheet, l []int, n int, backs ...int) {
	t.Helper()
	m, z, e := order.Back(s.pattern(), l)
	if e != api.OK || m != n || !slices.Equal(z, backs) {
		t.Errorf("%s: Back of %v: %d, %v, error %d, want %d, %v", what, l, m, z, e, n, backs)
	}
}

// The chapter's examples, 1 and 2.
func TestExampleTriangle(t *testing.T) {
	s := example()
	wantList(t, "example", api.OrderNatural, s, 0, 1, 2, 3)
	wantList(t, "example", api.OrderLargest, s, 1, 2, 3, 0)
	wantList(t, "example", api.OrderSmallest, s, 1, 2, 3, 0)
	wantList(t, "example", api.OrderIncidence, s, 1, 2, 3, 0)
	wantBacks(t, "example", s, []int{0, 1, 2, 3}, 2, 0, 1, 1, 2)
	wantBacks(t, "example", s, []int{3, 2, 1, 0}, 2, 1, 2, 1, 0)
	wantBacks(t, "example", s, []int{0, 2, 3, 1}, 3, 0, 3, 0, 1)
	wantWorth(t, "example", s, 2, 1, 2, 2, 2)
}

// The chapter's examples, 3: no edges, no vertices.
func TestExampleNothing(t *testing.T) {
	for n := range 6 {
		for _, kind := range allKinds()[:4] {
			wantList(t, "no edges", kind, blank(n), upTo(n)...)
		}
		wantWorth(t, "no edges", blank(n), 0, make([]int, n)...)
		wantBacks(t, "no edges", blank(n), upTo(n), 0, make([]int, n)...)
	}
	wantList(t, "no vertices", api.OrderScript, blank(0))
	if l, e := order.Inverse(nil); len(l) > 0 || e != api.OK {
		t.Errorf("Inverse of nothing: %v, error %d", l, e)
	}
}

// The chapter's examples, 4.
func TestExampleLists(t *testing.T) {
	if l, e := order.Order(api.OrderScript, example().pattern(), []int{0, 1, 2}); len(l) > 0 || e != api.ErrOrder {
		t.Errorf("a script of three: %v, error %d", l, e)
	}
	if e := order.Check(2, []int{1, 0}); e != api.OK {
		t.Errorf("Check: error %d", e)
	}
	if l, e := order.Inverse([]int{2, 0, 1}); !slices.Equal(l, []int{1, 2, 0}) || e != api.OK {
		t.Errorf("Inverse: %v, error %d", l, e)
	}
}

// P11.1, P11.3: one vertex, all edges, a vertex without neighbours beside others, several parts.
func TestEdges(t *testing.T) {
	for _, kind := range allKinds()[:4] {
		wantList(t, "one vertex", kind, blank(1), 0)
		wantList(t, "all edges", kind, joined(5, func(_, _ int) bool { return true }), 0, 1, 2, 3, 4)
	}
	wantWorth(t, "one vertex", blank(1), 0, 0)
	wantWorth(t, "one edge", of(2, [2]int{0, 1}), 1, 1, 1)
	wantWorth(t, "all edges", joined(5, func(_, _ int) bool { return true }), 4, 4, 4, 4, 4, 4)

	lonely := of(4, [2]int{0, 2}, [2]int{2, 3})
	wantList(t, "lonely", api.OrderLargest, lonely, 2, 0, 3, 1)
	wantList(t, "lonely", api.OrderSmallest, lonely, 0, 2, 3, 1)
	wantList(t, "lonely", api.OrderIncidence, lonely, 2, 0, 3, 1)
	wantWorth(t, "lonely", lonely, 1, 1, 0, 1, 1)
	wantBacks(t, "lonely", lonely, []int{0, 1, 3, 2}, 2, 0, 0, 2, 0)

	// a triangle 4, 5, 6; an edge 1, 3; a path 0, 2, 7
	parts := of(8, [2]int{4, 5}, [2]int{5, 6}, [2]int{4, 6}, [2]int{1, 3}, [2]int{0, 2}, [2]int{2, 7})
	wantList(t, "parts", api.OrderLargest, parts, 2, 4, 5, 6, 0, 1, 3, 7)
	wantList(t, "parts", api.OrderSmallest, parts, 4, 5, 6, 0, 2, 1, 3, 7)
	wantList(t, "parts", api.OrderIncidence, parts, 2, 0, 7, 4, 5, 6, 1, 3)
	wantWorth(t, "parts", parts, 2, 1, 1, 1, 1, 2, 2, 2, 1)
}

// P11.1: ties: OrderLargest and OrderIncidence take the lowest number, OrderSmallest the greatest at the end; OrderIncidence looks at the degree in the whole graph first.
func TestTies(t *testing.T) {
	circle := of(5, [2]int{0, 1}, [2]int{1, 2}, [2]int{2, 3}, [2]int{3, 4}, [2]int{4, 0})
	wantList(t, "circle", api.OrderLargest, circle, 0, 1, 2, 3, 4)
	wantList(t, "circle", api.OrderSmallest, circle, 0, 1, 2, 3, 4)
	wantList(t, "circle", api.OrderIncidence, circle, 0, 1, 2, 3, 4)

	// 3 has three neighbours; of these 1 has another, 0
	spread := of(5, [2]int{3, 4}, [2]int{3, 2}, [2]int{3, 1}, [2]int{1, 0})
	wantList(t, "spread", api.OrderLargest, spread, 3, 1, 0, 2, 4)
	wantList(t, "spread", api.OrderSmallest, spread, 0, 1, 3, 2, 4)
	wantList(t, "spread", api.OrderIncidence, spread, 3, 1, 0, 2, 4)

	// behind 0 its neighbours 1, 4 and 5 have one each; 4 has the greatest degree
	degree := of(6, [2]int{0, 1}, [2]int{0, 4}, [2]int{0, 5}, [2]int{4, 2})
	wantList(t, "degree", api.OrderIncidence, degree, 0, 4, 1, 2, 5, 3)

	// behind 0 and 1 their common neighbours 2, 3 and 5 have two each, 4 has one
	most := of(7, [2]int{0, 1}, [2]int{0, 2}, [2]int{0, 3}, [2]int{0, 4}, [2]int{0, 5}, [2]int{1, 2}, [2]int{1, 5}, [2]int{1, 3}, [2]int{4, 6})
	wantList(t, "most", api.OrderIncidence, most, 0, 1, 2, 3, 5, 4, 6)
	wantList(t, "most", api.OrderSmallest, most, 0, 1, 2, 3, 5, 4, 6)
	wantWorth(t, "most", most, 2, 2, 2, 2, 2, 1, 2, 1)
}

// P11.1: what is left is counted anew behind each step: the ends of a path are taken one after the other.
func TestPeeling(t *testing.T) {
	path := of(5, [2]int{2, 0}, [2]int{0, 4}, [2]int{4, 1}, [2]int{1, 3})
	wantList(t, "path", api.OrderSmallest, path, 0, 4, 1, 2, 3)
	wantList(t, "path", api.OrderLargest, path, 0, 1, 4, 2, 3)
	wantList(t, "path", api.OrderIncidence, path, 0, 4, 1, 2, 3)
	wantWorth(t, "path", path, 1, 1, 1, 1, 1, 1)
	// four vertices, each the neighbour of each, with a tail of two: the tail is taken first
	tail := of(6, [2]int{0, 1}, [2]int{0, 2}, [2]int{0, 3}, [2]int{1, 2}, [2]int{1, 3}, [2]int{2, 3}, [2]int{3, 4}, [2]int{4, 5})
	wantWorth(t, "tail", tail, 3, 3, 3, 3, 3, 1, 1)
}

// P11.1: a script is looked at for OrderScript alone.
func TestScript(t *testing.T) {
	g := example().pattern()
	for _, script := range [][]int{nil, {}, {9}, {0, 1, 2}, {0, 0, 0, 0}, {-1, 1, 2, 3}, {4, 1, 2, 3}, {3, 2, 1, 0}, {0, 1, 2, 3, 4}} {
		for _, kind := range allKinds()[:4] {
			l, e := order.Order(kind, g, script)
			want, _ := order.Order(kind, g, nil)
			if e != api.OK || !slices.Equal(l, want) || len(l) != 4 {
				t.Errorf("kind %d with script %v: %v, error %d", kind, script, l, e)
			}
		}
		l, e := order.Order(api.OrderScript, g, script)
		if slices.Equal(script, []int{3, 2, 1, 0}) {
			if e != api.OK || !slices.Equal(l, script) {
				t.Errorf("script %v: %v, error %d", script, l, e)
			}
		} else if e != api.ErrOrder || len(l) > 0 {
			t.Errorf("script %v: %v, error %d", script, l, e)
		}
	}
}
