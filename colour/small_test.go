package colour_test

import (
	"fmt"
	"slices"
	"testing"

	"slope/api"
	"slope/colour"
)

// P12.1: the graphs of all small patterns, and of all small graphs.
func TestGraphsOfAllSmall(t *testing.T) {
	t.Parallel()
	for rows := range 5 {
		for width := range 5 {
			if rows*width > 12 {
				continue
			}
			allPatterns(rows, width, func(s sheet) {
				for _, name := range []string{"Columns", "Rows", "Near"} {
					wantPlain(t, callOf(name), held{p: s.pattern()})
				}
			})
		}
	}
	for n := range 7 {
		allGraphs(n, func(s sheet) { wantPlain(t, callOf("Near"), held{p: s.pattern()}) })
	}
}

// P12.2: all colours below 4 of all graphs of up to four vertices, and below 3 of five; the circles by every circle.
func TestFaultOfAllSmall(t *testing.T) {
	t.Parallel()
	fault, check := callOf("Fault"), callOf("Check")
	var met [6][5]int // by kind and length of the fault
	for n := range 6 {
		allGraphs(n, func(s sheet) {
			p := s.pattern()
			allColours(n, min(4, 8-n), func(colours []int) {
				for _, kind := range graphKinds() {
					h := held{kind: kind, p: p, colours: colours}
					l := wantPlain(t, fault, h).list
					wantPlain(t, check, h)
					met[kind][len(l)]++
					if kind == api.ColourAcyclic {
						wantCircles(t, s, colours, l)
					}
				}
			})
		})
	}
	for _, x := range [][2]int{{1, 0}, {1, 2}, {4, 0}, {4, 2}, {4, 4}, {5, 0}, {5, 2}} {
		if met[x[0]][x[1]] < 500 {
			t.Errorf("kind and length of the fault %v: met %d times", x, met[x[0]][x[1]])
		}
	}
}

// wantCircles fails if a fault of ColourAcyclic is not what every circle tells.
func wantCircles(t *testing.T, s sheet, colours, fault []int) {
	t.Helper()
	want := byCircles(s, colours)
	if l := plainFault(api.ColourProper, s, colours); l != nil {
		want = l
	}
	if !slices.Equal(fault, want) {
		t.Fatalf("%v, colours %v: Fault %v, by circles %v", s.pattern(), colours, fault, want)
	}
}

// P12.2: all colours of all small patterns' columns and rows.
func TestLinesOfAllSmall(t *testing.T) {
	t.Parallel()
	for rows := range 5 {
		for width := range 5 {
			if rows*width > 9 {
				continue
			}
			allPatterns(rows, width, func(s sheet) {
				p := s.pattern()
				for _, kind := range []api.ColourKind{api.ColourColumns, api.ColourRows} {
					allColours(s.things(kind), 3, func(colours []int) {
						h := held{kind: kind, p: p, colours: colours}
						wantPlain(t, callOf("Fault"), h)
						wantPlain(t, callOf("Check"), h)
					})
				}
			})
		}
	}
}

// P12.2: the least of several faults: graphs with many edges and few colours, whose names are at random.
func TestLeastFault(t *testing.T) {
	t.Parallel()
	d := dice(3)
	met := map[string]int{}
	for range 6000 {
		for _, kind := range allKinds() {
			s := d.small(kind, 9)
			n := s.things(kind)
			colours := d.someColours(n, 1+d.next(6))
			if isOfGraphs(kind) && d.next(4) > 0 {
				// without edges between those of one colour there is no fault of a pair
				s = joined(n, func(u, v int) bool { return s.has[u][v] && colours[u] != colours[v] })
			}
			h := held{kind: kind, p: s.pattern(), colours: colours}
			l := wantPlain(t, callOf("Fault"), h).list
			wantPlain(t, callOf("Check"), h)
			met[fmt.Sprint(kind, len(l))]++
			if kind == api.ColourAcyclic && n < 8 {
				wantCircles(t, s, colours, l)
			}
			if kind == api.ColourAcyclic && len(l) == 2 && distinct(colours, upTo(n)...) > 2 {
				met["one of several"]++
			}
		}
	}
	for _, what := range []string{"1 0", "1 2", "2 0", "2 3", "3 0", "3 3", "4 0", "4 2", "4 4", "5 0", "5 2", "one of several"} {
		if met[what] < 300 {
			t.Errorf("kind and length of the fault %s: met %d times", what, met[what])
		}
	}
}

// P12.3, P12.4 (3): all orders of all graphs of up to four vertices; colour after colour by plain ones, and by Check.
func TestGreedyOfAllSmall(t *testing.T) {
	t.Parallel()
	for n := range 5 {
		allGraphs(n, func(s sheet) {
			allOrders(n, func(l []int) {
				for _, kind := range graphKinds() {
					wantGreedily(t, kind, s, l)
				}
			})
		})
	}
}

// P12.3: some orders of all graphs of five vertices.
func TestGreedyOfFive(t *testing.T) {
	t.Parallel()
	d := dice(5)
	allGraphs(5, func(s sheet) {
		for _, kind := range graphKinds() {
			wantGreedily(t, kind, s, upTo(5))
			wantGreedily(t, kind, s, d.shuffled(5))
		}
	})
}

// P12.3: all orders of all patterns of up to three rows and columns.
func TestGreedyOfLines(t *testing.T) {
	t.Parallel()
	for rows := range 4 {
		for width := range 4 {
			allPatterns(rows, width, func(s sheet) {
				for _, kind := range []api.ColourKind{api.ColourColumns, api.ColourRows} {
					allOrders(s.things(kind), func(l []int) { wantGreedily(t, kind, s, l) })
				}
			})
		}
	}
}

// P12.3: larger ones at random.
func TestGreedyAtRandom(t *testing.T) {
	t.Parallel()
	d := dice(7)
	for range 700 {
		for _, kind := range allKinds() {
			s := d.small(kind, pick(&d, 6, 8, 14))
			wantGreedily(t, kind, s, d.shuffled(s.things(kind)))
		}
	}
}

// wantGreedily fails if Greedy or Bound are not the plain ones, or Greedy not what Check makes.
func wantGreedily(t *testing.T, kind api.ColourKind, s sheet, list []int) {
	t.Helper()
	h := held{kind: kind, p: s.pattern(), list: list}
	a := wantPlain(t, callOf("Greedy"), h)
	b := wantPlain(t, callOf("Bound"), h)
	if want := plainGreedy(kind, s, list, byCheck); !slices.Equal(a.list, want) {
		t.Fatalf("Greedy of kind %d, %v, order %v: %v, by Check %v", kind, h.p, list, a.list, want)
	}
	if a.n > b.n {
		t.Fatalf("Greedy of kind %d, %v, order %v: %d colours, Bound %d", kind, h.p, list, a.n, b.n)
	}
}

// P12.5: all graphs of up to five vertices and all small patterns.
func TestLeastOfAllSmall(t *testing.T) {
	t.Parallel()
	for n := range 6 {
		allGraphs(n, func(s sheet) {
			for _, kind := range graphKinds() {
				wantFewest(t, kind, s)
			}
		})
	}
	for rows := range 4 {
		for width := range 4 {
			allPatterns(rows, width, func(s sheet) {
				wantFewest(t, api.ColourColumns, s)
				wantFewest(t, api.ColourRows, s)
			})
		}
	}
}

// P12.5: graphs and patterns of every sort, of just 6, 7, 8 and 9 things: from 9 on there is no Least.
func TestLeastOfSorts(t *testing.T) {
	t.Parallel()
	d := dice(9)
	for n := 6; n < 10; n++ {
		for _, kind := range allKinds() {
			for what, s := range d.sorts(kind, n) {
				wantFewest(t, kind, s)
				if _, e := colour.Least(kind, s.pattern()); (e == api.ErrArg) != (n == 9) {
					t.Errorf("kind %d, %d things, %s: error %d", kind, n, what, e)
				}
			}
		}
	}
}

// wantFewest fails if Least or Floor are not the plain ones, or Floor is above Least.
func wantFewest(t *testing.T, kind api.ColourKind, s sheet) {
	t.Helper()
	h := held{kind: kind, p: s.pattern()}
	a, b := wantPlain(t, callOf("Least"), h), wantPlain(t, callOf("Floor"), h)
	if a.e == api.OK && a.n < b.n {
		t.Fatalf("kind %d, %v: Least %d, Floor %d", kind, h.p, a.n, b.n)
	}
}

// P12.1 to P12.7: every call with what suits it, or nearly.
func TestRandom(t *testing.T) {
	t.Parallel()
	d := dice(11)
	met := map[string]int{}
	for range 3000 {
		kind := pick(&d, allKinds()...)
		s := d.small(pick(&d, kind, kind, kind, api.ColourColumns), 7)
		n := s.things(kind)
		h := held{kind: kind, p: s.pattern(), list: d.shuffled(n), colours: d.someColours(n, 4)}
		switch d.next(6) {
		case 0:
			h.list = d.nearly(h.list, n)
		case 1:
			h.colours = d.nearly(h.colours, api.MaxColour+1)
		}
		for _, c := range allCalls() {
			met[fmt.Sprint(c.name, wantPlain(t, c, h).e)]++
		}
	}
	for _, name := range []string{"Columns0", "Rows0", "Near0", "Near220", "Check0", "Check220", "Check240", "Check241", "Fault0", "Fault240", "Greedy0", "Greedy182", "Bound0", "Bound182", "Floor0", "Floor220", "Least0", "Least220", "Classes0", "Classes240"} {
		if met[name] < 50 {
			t.Errorf("%s was met %d times", name, met[name])
		}
	}
}

// nearly is a list of numbers below most with one thing changed; it may be as good as it was.
func (d *dice) nearly(l []int, most int) []int {
	l = slices.Clone(l)
	switch {
	case len(l) == 0 || d.next(4) == 0:
		return append(l, pick(d, -1, 0, len(l), most-1, most))
	case d.next(3) == 0:
		return l[:len(l)-1]
	}
	l[d.next(len(l))] = pick(d, -1, 0, len(l)-1, most-1, most, most+1)
	return l
}

// P12.7: classes of all short lists of colours, and of long ones.
func TestClasses(t *testing.T) {
	t.Parallel()
	c := callOf("Classes")
	for n := range 6 {
		allColours(n, 4, func(l []int) { wantPlain(t, c, held{colours: l}) })
	}
	d := dice(13)
	for _, n := range []int{0, 1, 2, 50, 127, 128, 129, 130, 1000} {
		for range 20 {
			a := wantPlain(t, c, held{colours: d.someColours(n, 1+d.next(40))})
			wantPlain(t, c, held{colours: make([]int, n)})
			wantThings(t, n, a)
		}
	}
}

// wantThings fails if more than MaxSide colours have classes, or fewer have none.
func wantThings(t *testing.T, n int, a answer) {
	t.Helper()
	count := 0
	for _, l := range a.lists {
		count += len(l)
		if !slices.IsSorted(l) {
			t.Fatalf("a class that doesn't rise: %v", l)
		}
	}
	if n <= 128 && (count != n || a.e != api.OK) || n > 128 && (len(a.lists) > 0 || a.e != api.ErrColours) {
		t.Fatalf("%d colours: %d things in classes, error %d", n, count, a.e)
	}
}
