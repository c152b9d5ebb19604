package order_test

import (
	"fmt"
	"slices"
	"testing"

	"slope/api"
	"slope/order"
	"slope/sparse"
)

// worth is Degeneracy of a graph, which must be one.
func worth(t *testing.T, s sheet) (int, []int) {
	t.Helper()
	n, cores, e := order.Degeneracy(s.pattern())
	if e != api.OK || len(cores) != len(s) {
		t.Fatalf("Degeneracy of %s: %d, %v, error %d", short(fmt.Sprint(s.pattern())), n, cores, e)
	}
	return n, cores
}

// backOf is Back of an order, which must be one.
func backOf(t *testing.T, s sheet, l []int) int {
	t.Helper()
	n, backs, e := order.Back(s.pattern(), l)
	if e != api.OK || len(backs) != len(s) || greatest(backs) != n {
		t.Fatalf("Back of %s: %d, %v, error %d", short(fmt.Sprint(s.pattern())), n, backs, e)
	}
	return n
}

// P11.4 (1): of all orders of all graphs of up to five vertices none has a lesser back, and one has that.
func TestNoLesserBack(t *testing.T) {
	t.Parallel()
	for n := range 6 {
		allGraphs(n, func(s sheet) {
			least := n
			allOrders(n, func(l []int) { least = min(least, backOf(t, s, l)) })
			if m, _ := worth(t, s); m != least {
				t.Fatalf("Degeneracy of %v: %d, the least back %d", s.pattern(), m, least)
			}
		})
	}
}

// P11.4 (2): all sets of vertices of all graphs of up to five vertices, and of some of up to ten; (3) and (4) of these.
func TestEverySet(t *testing.T) {
	t.Parallel()
	check := func(s sheet) {
		m, cores := worth(t, s)
		wantNumbers(t, fmt.Sprint(s.pattern()), s, m, cores)
		reached := len(s) == 0
		for set := 1; set < 1<<len(s); set++ {
			least := s.leastWithin(set)
			if least > m {
				t.Fatalf("%v: in the set %b each has %d neighbours, Degeneracy %d", s.pattern(), set, least, m)
			}
			reached = reached || least == m
		}
		if !reached {
			t.Fatalf("%v: no set has %d neighbours of each", s.pattern(), m)
		}
	}
	for n := range 6 {
		allGraphs(n, check)
	}
	d := dice(21)
	for n := range 11 {
		for _, s := range d.graphs(n) {
			check(s)
		}
	}
}

// sizes are numbers of vertices up to the most.
func sizes() []int { return []int{0, 1, 2, 3, 4, 7, 16, 33, 64, 127, 128} }

// P11.4 on graphs of every kind and of all sizes: (1) with each kind's order and some at random, (2) with sets at random and the one that the cores tell, (3) and (4).
func TestWorth(t *testing.T) {
	t.Parallel()
	d := dice(22)
	for _, n := range sizes() {
		for what, s := range d.graphs(n) {
			m, cores := worth(t, s)
			for _, l := range someOrders(t, s) {
				if b := backOf(t, s, l); b < m {
					t.Errorf("%d, %s: (1): the order %v has back %d, Degeneracy %d", n, what, l, b, m)
				}
			}
			wantSets(t, fmt.Sprint(n, ", ", what), s, m, cores)
			wantNumbers(t, fmt.Sprint(n, ", ", what), s, m, cores)
		}
	}
}

// wantNumbers fails if the greatest core is not m, or m is too low for the edges.
func wantNumbers(t *testing.T, what string, s sheet, m int, cores []int) {
	t.Helper()
	if greatest(cores) != m {
		t.Errorf("%s: (3): greatest core %d, Degeneracy %d", what, greatest(cores), m)
	}
	if len(s)*m < s.edges() {
		t.Errorf("%s: (4): %d edges, Degeneracy %d", what, s.edges(), m)
	}
}

// someOrders are each kind's, these the other way round, and some at random.
func someOrders(t *testing.T, s sheet) [][]int {
	t.Helper()
	d := dice(len(s))
	var z [][]int
	for _, kind := range allKinds()[:4] {
		l, e := order.Order(kind, s.pattern(), nil)
		if e != api.OK {
			t.Fatalf("Order: kind %d, error %d", kind, e)
		}
		z = append(z, l, d.shuffled(len(s)))
		l = slices.Clone(l)
		slices.Reverse(l)
		z = append(z, l)
	}
	return z
}

// wantSets fails if a set at random has more than m neighbours of each, or the vertices of core m fewer.
func wantSets(t *testing.T, what string, s sheet, m int, cores []int) {
	t.Helper()
	d := dice(len(s))
	for range 20 {
		in := make([]bool, len(s))
		per := 1 + d.next(100)
		for v := range in {
			in[v] = d.next(100) < per
		}
		least := s.least(in)
		if slices.Contains(in, true) && least > m {
			t.Errorf("%s: (2): in a set each has %d neighbours, Degeneracy %d", what, least, m)
		}
	}
	in := make([]bool, len(s))
	for v, k := range cores {
		in[v] = k == m
	}
	if len(s) > 0 && (!slices.Contains(in, true) || s.least(in) < m) {
		t.Errorf("%s: (2): of core %d some have %d neighbours there", what, m, s.least(in))
	}
}

// least is the least number of neighbours that a vertex of a set has within it.
func (s sheet) least(in []bool) int {
	least := len(s)
	for v := range s {
		if in[v] {
			least = min(least, s.degree(v, func(u int) bool { return in[u] }))
		}
	}
	return least
}

// P11.4 (5): with vertices renamed Degeneracy stays, and cores go along.
func TestRenamed(t *testing.T) {
	t.Parallel()
	d := dice(23)
	for n := range 5 {
		allGraphs(n, func(s sheet) {
			allOrders(n, func(l []int) { wantRenamed(t, s, l) })
		})
	}
	for _, n := range sizes() {
		for _, s := range d.graphs(n) {
			wantRenamed(t, s, d.shuffled(n))
		}
	}
}

// wantRenamed fails if the graph whose vertex i is this one's to[i] is worth another thing.
func wantRenamed(t *testing.T, s sheet, to []int) {
	t.Helper()
	g, e := sparse.Permute(s.pattern(), to, to)
	n, cores := worth(t, s)
	m, moved, f := order.Degeneracy(g)
	if e != api.OK || f != api.OK || m != n || len(moved) != len(cores) {
		t.Fatalf("renamed by %v: %d, %v, errors %d, %d, want %d", to, m, moved, e, f, n)
	}
	for i, v := range to {
		if moved[i] != cores[v] {
			t.Fatalf("renamed by %v: core of %d: %d, want %d", to, i, moved[i], cores[v])
		}
	}
}

// P11.5: what Inverse tells is an order, undone by Inverse; a script by the order undone is each vertex's place.
func TestUndone(t *testing.T) {
	d := dice(24)
	for n := range 129 {
		l := d.shuffled(n)
		back, e := order.Inverse(l)
		again, f := order.Inverse(back)
		if e != api.OK || f != api.OK || !slices.Equal(again, l) || order.Check(n, back) != api.OK {
			t.Errorf("Inverse of %v: %v, then %v, errors %d, %d", l, back, again, e, f)
		}
		for i, v := range l {
			if back[v] != i {
				t.Errorf("Inverse of %v: %d is at %d", l, v, back[v])
			}
		}
	}
}

// P11.1, P11.5: each kind's order is one.
func TestOrdersAreOrders(t *testing.T) {
	t.Parallel()
	d := dice(25)
	for _, n := range sizes() {
		for what, s := range d.graphs(n) {
			for _, l := range someOrders(t, s) {
				if e := order.Check(n, l); e != api.OK || !plainIs(l, n) {
					t.Errorf("%d, %s: %v, error %d", n, what, l, e)
				}
			}
		}
	}
}
