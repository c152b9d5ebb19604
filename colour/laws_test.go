package colour_test

import (
	"fmt"
	"slices"
	"testing"

	"slope/api"
	"slope/colour"
	"slope/order"
)

// sizes are numbers of things up to the most.
func sizes() []int { return []int{0, 1, 2, 3, 4, 7, 16, 33, 64, 127, 128} }

// greedy is Greedy, which must answer.
func greedy(t *testing.T, kind api.ColourKind, p api.Pattern, list []int) ([]int, int) {
	t.Helper()
	l, n, e := colour.Greedy(kind, p, list)
	if e != api.OK || len(l) != len(list) || plainNumber(l) != n {
		t.Fatalf("Greedy of kind %d, %s, order %s: %s, %d, error %d", kind, short(fmt.Sprint(p)), short(fmt.Sprint(list)), short(fmt.Sprint(l)), n, e)
	}
	return l, n
}

// graphBy is the graph of a kind's things, by the program.
func graphBy(t *testing.T, kind api.ColourKind, p api.Pattern) api.Pattern {
	t.Helper()
	e := api.OK
	switch kind {
	case api.ColourColumns:
		p, e = colour.Columns(p)
	case api.ColourRows:
		p, e = colour.Rows(p)
	}
	if e != api.OK {
		t.Fatalf("the graph of kind %d: error %d", kind, e)
	}
	return p
}

// someOrders are those that layer 11 makes of the things' graph, and some at random.
func (d *dice) someOrders(t *testing.T, g api.Pattern) [][]int {
	t.Helper()
	z := [][]int{d.shuffled(g.Rows), d.shuffled(g.Rows)}
	for _, kind := range []api.OrderKind{api.OrderNatural, api.OrderLargest, api.OrderSmallest, api.OrderIncidence} {
		l, e := order.Order(kind, g, nil)
		if e != api.OK {
			t.Fatalf("Order: kind %d, error %d", kind, e)
		}
		z = append(z, l)
	}
	return z
}

// eachSort runs f by itself with graphs and patterns of every sort and of all sizes, for every kind.
func eachSort(t *testing.T, seed int, f func(t *testing.T, d *dice, kind api.ColourKind, s sheet)) {
	t.Parallel()
	for _, kind := range allKinds() {
		for _, n := range sizes() {
			t.Run(fmt.Sprint("kind ", kind, ", ", n), func(t *testing.T) {
				t.Parallel()
				d := dice(seed + n)
				for _, s := range d.sorts(kind, n) {
					f(t, new(dice(seed)), kind, s)
				}
			})
		}
	}
}

// P12.4 (1), (3), (4), P12.5's Floor, P12.7: what greedy's colours are, with orders of every kind.
func TestGreedyIsWorth(t *testing.T) {
	eachSort(t, 41, func(t *testing.T, d *dice, kind api.ColourKind, s sheet) {
		p := s.pattern()
		g := graphBy(t, kind, p)
		floor, e := colour.Floor(kind, p)
		if e != api.OK || floor != plainFloor(kind, s) {
			t.Fatalf("Floor: %d, error %d, want %d", floor, e, plainFloor(kind, s))
		}
		for _, list := range d.someOrders(t, g) {
			l, n := greedy(t, kind, p, list)
			if e := colour.Check(kind, p, l); e != api.OK {
				t.Fatalf("(1): Check of %s: error %d", short(fmt.Sprint(l)), e)
			}
			classes, e := colour.Classes(l)
			if e != api.OK || len(classes) != n || slices.ContainsFunc(classes, func(c []int) bool { return len(c) == 0 }) {
				t.Fatalf("(1): classes %s, error %d", short(fmt.Sprint(classes)), e)
			}
			bound, e := colour.Bound(kind, p, list)
			if e != api.OK || n > bound || n < floor {
				t.Fatalf("(3): %d colours, bound %d, error %d, floor %d", n, bound, e, floor)
			}
			wantLikeProper(t, kind, p, g, list, l)
		}
	})
}

// wantLikeProper fails if (4) doesn't hold: of columns and rows Greedy is that of their graph, Bound too.
func wantLikeProper(t *testing.T, kind api.ColourKind, p, g api.Pattern, list, l []int) {
	t.Helper()
	if kind != api.ColourColumns && kind != api.ColourRows {
		return
	}
	if m, _ := greedy(t, api.ColourProper, g, list); !slices.Equal(l, m) {
		t.Fatalf("(4): kind %d: %s, of the graph %s", kind, short(fmt.Sprint(l)), short(fmt.Sprint(m)))
	}
	a, e := colour.Bound(kind, p, list)
	b, f := colour.Bound(api.ColourProper, g, list)
	back, _, _ := order.Back(g, list)
	if a != b || e != api.OK || f != api.OK || len(list) > 0 && b != back+1 {
		t.Fatalf("(3): kind %d: Bound %d, of the graph %d, back %d, errors %d, %d", kind, a, b, back, e, f)
	}
}

// P12.4 (2): of some things of graphs and patterns of every sort and size: each lesser colour is none that it could have had.
func TestGreedyIsLeast(t *testing.T) {
	eachSort(t, 42, func(t *testing.T, d *dice, kind api.ColourKind, s sheet) {
		list := d.shuffled(s.things(kind))
		l, _ := greedy(t, kind, s.pattern(), list)
		for _, i := range d.some(len(list), 2) {
			part := s.part(kind, list[:i+1]).pattern()
			var mine []int
			for _, v := range list[:i+1] {
				mine = append(mine, l[v])
			}
			if e := colour.Check(kind, part, mine); e != api.OK {
				t.Fatalf("thing %d of the order: error %d", i, e)
			}
			for k := range l[list[i]] {
				mine[i] = k
				if e := colour.Check(kind, part, mine); e != api.ErrColouring {
					t.Fatalf("thing %d of the order, %d in the place of %d: error %d", i, k, l[list[i]], e)
				}
			}
		}
	})
}

// some are so many of n numbers, the last among them.
func (d *dice) some(n, many int) []int {
	l := d.shuffled(n)[:min(n, many)]
	if n > 0 {
		l[0] = n - 1
	}
	return l
}

// allClassings calls f with all colours of n things, each at most 1 more than the greatest ahead of it.
func allClassings(n int, f func(l []int)) {
	var more func(l []int)
	more = func(l []int) {
		if len(l) == n {
			f(l)
			return
		}
		for k := range plainNumber(l) + 1 {
			more(append(l[:len(l):len(l)], k))
		}
	}
	more(nil)
}

// P12.6: all colours of all graphs of up to five vertices: star is acyclic, acyclic is proper, proper for Near is star; P12.5: none has fewer colours than Floor and Least.
func TestKindsAmongThem(t *testing.T) {
	t.Parallel()
	var met [4]int
	for n := range 6 {
		allGraphs(n, func(s sheet) {
			p := s.pattern()
			near, _ := colour.Near(p)
			least, floor := map[api.ColourKind]int{}, map[api.ColourKind]int{}
			for _, kind := range graphKinds() {
				least[kind], _ = colour.Least(kind, p)
				floor[kind], _ = colour.Floor(kind, p)
			}
			allClassings(n, func(l []int) {
				for _, kind := range graphKinds() {
					if m := distinct(l, upTo(n)...); colour.Check(kind, p, l) == api.OK && (m < least[kind] || m < floor[kind]) {
						t.Fatalf("kind %d, %v, colours %v: Least %d, Floor %d", kind, p, l, least[kind], floor[kind])
					}
				}
				met[wantChain(t, p, near, l)]++
			})
		})
	}
	if slices.Min(met[:]) < 300 {
		t.Errorf("met %v times", met)
	}
}

// wantChain fails if colours are of a kind, but not of one that follows from it; of how many of the three kinds of graphs they are.
func wantChain(t *testing.T, p, near api.Pattern, l []int) int {
	t.Helper()
	is := func(kind api.ColourKind, g api.Pattern) bool { return colour.Check(kind, g, l) == api.OK }
	proper, acyclic, star := is(api.ColourProper, p), is(api.ColourAcyclic, p), is(api.ColourStar, p)
	if star && !acyclic || acyclic && !proper || is(api.ColourProper, near) && !star {
		t.Fatalf("%s, colours %v: proper %v, acyclic %v, star %v", short(fmt.Sprint(p)), l, proper, acyclic, star)
	}
	count := 0
	for _, yes := range []bool{proper, acyclic, star} {
		if yes {
			count++
		}
	}
	return count
}

// P12.6: the same of greedy's colours of graphs of every sort and size.
func TestKindsOfSorts(t *testing.T) {
	t.Parallel()
	d := dice(43)
	for _, n := range sizes() {
		for what, s := range d.graphs(n) {
			p := s.pattern()
			near, e := colour.Near(p)
			if e != api.OK {
				t.Fatalf("%d, %s: Near: error %d", n, what, e)
			}
			list := d.shuffled(n)
			l, _ := greedy(t, api.ColourProper, near, list)
			if m := wantChain(t, p, near, l); m != 3 {
				t.Fatalf("%d, %s: proper for Near, but of %d kinds", n, what, m)
			}
			for i, kind := range []api.ColourKind{api.ColourProper, api.ColourAcyclic, api.ColourStar} {
				l, _ := greedy(t, kind, p, list)
				if m := wantChain(t, p, near, l); m < i+1 {
					t.Fatalf("%d, %s: kind %d, but of %d kinds", n, what, kind, m)
				}
			}
		}
	}
}

// P12.6: Least goes up from proper to acyclic to star to proper for Near: all graphs of up to five vertices, and every sort of up to eight.
func TestLeastGoesUp(t *testing.T) {
	t.Parallel()
	check := func(s sheet) {
		p := s.pattern()
		near, e := colour.Near(p)
		var l []int
		for _, kind := range []api.ColourKind{api.ColourProper, api.ColourAcyclic, api.ColourStar} {
			n, f := colour.Least(kind, p)
			if f != api.OK {
				t.Fatalf("%v: Least: error %d", p, f)
			}
			l = append(l, n)
		}
		n, f := colour.Least(api.ColourProper, near)
		if l = append(l, n); e != api.OK || f != api.OK || !slices.IsSorted(l) {
			t.Fatalf("%v: %v, errors %d, %d", p, l, e, f)
		}
	}
	for n := range 6 {
		allGraphs(n, check)
	}
	d := dice(44)
	for n := range 9 {
		for _, s := range d.graphs(n) {
			check(s)
		}
	}
}

// P12.5: some order reaches Least by Greedy, of proper, columns and rows: all orders of all graphs of up to five vertices, of all small patterns, and of every sort of six things; no order goes below it.
func TestSomeOrderReaches(t *testing.T) {
	t.Parallel()
	check := func(kind api.ColourKind, s sheet) {
		p := s.pattern()
		want, e := colour.Least(kind, p)
		n := s.things(kind)
		least := n
		allOrders(n, func(l []int) {
			if least > want {
				_, m := greedy(t, kind, p, l)
				least = min(least, m)
			}
		})
		if least != want || e != api.OK {
			t.Fatalf("kind %d, %v: Least %d, by orders %d, error %d", kind, p, want, least, e)
		}
	}
	for n := range 6 {
		allGraphs(n, func(s sheet) { check(api.ColourProper, s) })
	}
	for rows := range 4 {
		for width := range 4 {
			allPatterns(rows, width, func(s sheet) {
				check(api.ColourColumns, s)
				check(api.ColourRows, s)
			})
		}
	}
	d := dice(45)
	for _, kind := range []api.ColourKind{api.ColourProper, api.ColourColumns, api.ColourRows} {
		for _, s := range d.sorts(kind, 6) {
			check(kind, s)
		}
	}
}

// P12.5: no order goes below Least, for every kind.
func TestNoOrderGoesBelow(t *testing.T) {
	t.Parallel()
	d := dice(46)
	for _, kind := range allKinds() {
		for n := range 9 {
			for what, s := range d.sorts(kind, n) {
				want, e := colour.Least(kind, s.pattern())
				for range 5 {
					if _, m := greedy(t, kind, s.pattern(), d.shuffled(n)); m < want || e != api.OK {
						t.Fatalf("kind %d, %d, %s: Greedy %d, Least %d, error %d", kind, n, what, m, want, e)
					}
				}
			}
		}
	}
}

// P12.6: colours renamed one for one keep every kind, and what is none stays none: graphs and patterns of every sort and size.
func TestRenamed(t *testing.T) {
	eachSort(t, 47, func(t *testing.T, d *dice, kind api.ColourKind, s sheet) {
		p, n := s.pattern(), s.things(kind)
		good, _ := greedy(t, kind, p, d.shuffled(n))
		few := make([]int, n)
		for v := range few {
			few[v] = d.next(1 + n/2)
		}
		for _, l := range [][]int{good, few, d.swapped(good)} {
			names := d.names(n + 1)
			renamed := make([]int, n)
			for v, k := range l {
				renamed[v] = names[k]
			}
			a, b := colour.Check(kind, p, l), colour.Check(kind, p, renamed)
			if a != b || a != api.OK && a != api.ErrColouring {
				t.Fatalf("kind %d, %s: error %d, renamed %d", kind, short(fmt.Sprint(p)), a, b)
			}
			wantFaultRenamed(t, kind, p, l, renamed)
		}
	})
}

// wantFaultRenamed fails if Fault of renamed colours is another one, but for the colours of a circle: names don't keep their order.
func wantFaultRenamed(t *testing.T, kind api.ColourKind, p api.Pattern, l, renamed []int) {
	t.Helper()
	a, e := colour.Fault(kind, p, l)
	b, f := colour.Fault(kind, p, renamed)
	if kind != api.ColourAcyclic && !slices.Equal(a, b) || len(a) != len(b) || e != api.OK || f != api.OK {
		t.Fatalf("kind %d, %s: Fault %v, renamed %v, errors %d, %d", kind, short(fmt.Sprint(p)), a, b, e, f)
	}
}

// names are n unlike colours in any order, the least and the greatest mostly among them.
func (d *dice) names(n int) []int {
	l := []int{0, api.MaxColour}
	for len(l) < n {
		if k := d.next(api.MaxColour); !slices.Contains(l, k) {
			l = append(l, k)
		}
	}
	z := make([]int, len(l))
	for i, k := range d.shuffled(len(l)) {
		z[i] = l[k]
	}
	return z
}

// swapped is colours with those of two things exchanged, if there are two.
func (d *dice) swapped(l []int) []int {
	l = slices.Clone(l)
	if len(l) > 1 {
		i, k := d.next(len(l)), d.next(len(l))
		l[i], l[k] = l[k], l[i]
	}
	return l
}

// P12.6: of part of the things the colours are still of the kind: graphs and patterns of every sort and size.
func TestParts(t *testing.T) {
	eachSort(t, 48, func(t *testing.T, d *dice, kind api.ColourKind, s sheet) {
		n := s.things(kind)
		l, _ := greedy(t, kind, s.pattern(), d.shuffled(n))
		for range 3 {
			keep := d.shuffled(n)[:d.next(n+1)]
			var mine []int
			for _, v := range keep {
				mine = append(mine, l[v])
			}
			if e := colour.Check(kind, s.part(kind, keep).pattern(), mine); e != api.OK {
				t.Fatalf("kind %d, %s, things %v: error %d", kind, short(fmt.Sprint(s.pattern())), keep, e)
			}
		}
	})
}

// P12.6: all parts of all colourings of all graphs of up to four vertices.
func TestAllParts(t *testing.T) {
	t.Parallel()
	for n := range 5 {
		allGraphs(n, func(s sheet) {
			allClassings(n, func(l []int) {
				for _, kind := range graphKinds() {
					if colour.Check(kind, s.pattern(), l) == api.OK {
						wantAllParts(t, kind, s, l)
					}
				}
			})
		})
	}
}

// wantAllParts fails if a part of a colouring is none of the kind.
func wantAllParts(t *testing.T, kind api.ColourKind, s sheet, l []int) {
	t.Helper()
	for set := range 1 << len(l) {
		var keep, mine []int
		for v := range l {
			if set>>v&1 > 0 {
				keep, mine = append(keep, v), append(mine, l[v])
			}
		}
		if e := colour.Check(kind, s.part(kind, keep).pattern(), mine); e != api.OK {
			t.Fatalf("kind %d, %v, colours %v, things %v: error %d", kind, s.pattern(), l, keep, e)
		}
	}
}
