package order_test

import (
	"fmt"
	"math"
	"slices"
	"testing"

	"slope/api"
	"slope/order"
)

// wrongGraphs are patterns in each way in which they may not be, or are no graph.
func wrongGraphs() map[string]api.Pattern {
	z := map[string]api.Pattern{}
	add := func(what string, spoil func(p *api.Pattern)) {
		p := example().pattern()
		spoil(&p)
		z[what] = p
	}
	add("the zero value", func(p *api.Pattern) { *p = api.Pattern{} })
	add("rows below 0", func(p *api.Pattern) { p.Rows = -1 })
	add("both below 0", func(p *api.Pattern) { *p = api.Pattern{Rows: -1, Width: -1} })
	add("the least rows", func(p *api.Pattern) { p.Rows, p.Width = math.MinInt, math.MinInt })
	add("the greatest rows", func(p *api.Pattern) { p.Rows, p.Width = math.MaxInt, math.MaxInt })
	add("129 vertices", func(p *api.Pattern) { *p = api.Pattern{Rows: 129, Width: 129, Start: make([]int, 130)} })
	add("129 with all edges", func(p *api.Pattern) { *p = joined(129, func(_, _ int) bool { return true }).pattern() })
	add("more rows than columns", func(p *api.Pattern) { p.Rows, p.Start = 5, append(p.Start, 8) })
	add("more columns than rows", func(p *api.Pattern) { p.Width = 5 })
	add("columns of no rows", func(p *api.Pattern) { *p = api.Pattern{Width: 1, Start: []int{0}} })
	add("rows of no columns", func(p *api.Pattern) { *p = api.Pattern{Rows: 1, Start: []int{0, 0}} })
	add("no starts", func(p *api.Pattern) { p.Start = nil })
	add("a start too few", func(p *api.Pattern) { p.Start = p.Start[:4] })
	add("a start too many", func(p *api.Pattern) { p.Start = append(p.Start, 8) })
	add("first start 1", func(p *api.Pattern) { p.Start[0] = 1 })
	add("first start below 0", func(p *api.Pattern) { p.Start[0] = -1 })
	add("starts that fall", func(p *api.Pattern) { p.Start[2] = 0 })
	add("a start beyond", func(p *api.Pattern) { p.Start[2] = math.MaxInt })
	add("last start less", func(p *api.Pattern) { p.Start[4] = 7 })
	add("last start more", func(p *api.Pattern) { p.Start[4] = 9 })
	add("no columns", func(p *api.Pattern) { p.Cols = nil })
	add("a column below 0", func(p *api.Pattern) { p.Cols[0] = -1 })
	add("a column too great", func(p *api.Pattern) { p.Cols[7] = 4 })
	add("a column twice", func(p *api.Pattern) { p.Cols[2] = 0 })
	add("columns that fall", func(p *api.Pattern) { p.Cols[1], p.Cols[2] = 2, 0 })
	add("not symmetric", func(p *api.Pattern) { p.Cols[0] = 2 })
	add("an entry one way", func(p *api.Pattern) { *p = api.Pattern{Rows: 2, Width: 2, Start: []int{0, 1, 1}, Cols: []int{1}} })
	add("an entry the other way", func(p *api.Pattern) { *p = api.Pattern{Rows: 2, Width: 2, Start: []int{0, 0, 1}, Cols: []int{0}} })
	add("on the diagonal alone", func(p *api.Pattern) { *p = api.Pattern{Rows: 1, Width: 1, Start: []int{0, 1}, Cols: []int{0}} })
	add("the last on the diagonal", func(p *api.Pattern) {
		*p = api.Pattern{Rows: 3, Width: 3, Start: []int{0, 1, 2, 3}, Cols: []int{1, 0, 2}}
	})
	add("all of the diagonal", func(p *api.Pattern) {
		*p = api.Pattern{Rows: 2, Width: 2, Start: []int{0, 2, 4}, Cols: []int{0, 1, 0, 1}}
	})
	add("two faults", func(p *api.Pattern) { p.Width, p.Cols[3] = 7, -5 })
	return z
}

// oddKinds are all five kinds, and others.
func oddKinds() []api.OrderKind {
	return append(allKinds(), math.MinInt, -5, -1, 0, 6, 7, 128, math.MaxInt)
}

// oddLists are lists that are orders of four vertices, and others.
func oddLists() [][]int {
	return [][]int{nil, {}, {0}, {1}, {-1}, {0, 1, 2}, {0, 1, 2, 3}, {2, 0, 3, 1}, {0, 1, 2, 2}, {0, 0, 0, 0}, {0, 1, 2, 4}, {0, 1, 2, -1}, {-1, 1, 2, 3}, {0, 1, 2, 3, 4}, {0, 1, 2, 3, 3}, {1, 2, 3, 4}, {math.MinInt, 1, 2, 3}, {0, 1, 2, math.MaxInt}, upTo(127), upTo(128), upTo(129), make([]int, 128), make([]int, 129), make([]int, 100000)}
}

// oddNumbers are numbers of vertices, and others.
func oddNumbers() []int {
	return []int{math.MinInt, -129, -2, -1, 0, 1, 2, 3, 4, 5, 127, 128, 129, 130, 1 << 32, math.MaxInt}
}

// P11.1 to P11.3: each pattern that is no graph is ErrGraph, whatever stands beside it, and all else is nothing.
func TestGraphFaults(t *testing.T) {
	for what, g := range wrongGraphs() {
		if _, is := plainGraph(g); is {
			t.Fatalf("%s is a graph", what)
		}
		for _, list := range oddLists() {
			for _, kind := range oddKinds() {
				if l, e := order.Order(kind, g, list); e != api.ErrGraph || len(l) > 0 {
					t.Errorf("%s: Order: %v, error %d", what, l, e)
				}
			}
			if n, l, e := order.Back(g, list); e != api.ErrGraph || n != 0 || len(l) > 0 {
				t.Errorf("%s: Back: %d, %v, error %d", what, n, l, e)
			}
		}
		if n, l, e := order.Degeneracy(g); e != api.ErrGraph || n != 0 || len(l) > 0 {
			t.Errorf("%s: Degeneracy: %d, %v, error %d", what, n, l, e)
		}
	}
}

// P11.1: each kind that is none is ErrOrderKind, whatever script stands beside it.
func TestKindFaults(t *testing.T) {
	for _, s := range []sheet{blank(0), blank(1), example(), blank(128)} {
		for _, kind := range oddKinds()[5:] {
			for _, list := range oddLists() {
				if l, e := order.Order(kind, s.pattern(), list); e != api.ErrOrderKind || len(l) > 0 {
					t.Errorf("kind %d: %v, error %d", kind, l, e)
				}
			}
		}
	}
}

// P11.1, P11.2, P11.5, DOC.md's P4: all faults side by side, in the chapter's order.
func TestFaultsAtOnce(t *testing.T) {
	met := map[string]int{}
	patterns := []api.Pattern{blank(0).pattern(), blank(1).pattern(), example().pattern(), blank(127).pattern(), blank(128).pattern()}
	for _, g := range wrongGraphs() {
		patterns = append(patterns, g)
	}
	for _, g := range patterns {
		for _, list := range oddLists() {
			for _, kind := range oddKinds() {
				h := held{kind: kind, g: g, list: list}
				met[fmt.Sprint("Order", wantPlain(t, allCalls()[0], h).e)]++
			}
			met[fmt.Sprint("Back", wantPlain(t, allCalls()[1], held{g: g, list: list}).e)]++
		}
	}
	for _, list := range oddLists() {
		for _, n := range oddNumbers() {
			met[fmt.Sprint("Check", wantPlain(t, allCalls()[3], held{list: list, n: n}).e)]++
		}
		met[fmt.Sprint("Inverse", wantPlain(t, allCalls()[4], held{list: list}).e)]++
	}
	for name, errors := range map[string][]api.Errno{"Order": {api.OK, api.ErrGraph, api.ErrOrderKind, api.ErrOrder}, "Back": {api.OK, api.ErrGraph, api.ErrOrder}, "Check": {api.OK, api.ErrGraph, api.ErrOrder}, "Inverse": {api.OK, api.ErrOrder}} {
		for _, e := range errors {
			if met[fmt.Sprint(name, e)] < 5 {
				t.Errorf("%s: error %d was met %d times", name, e, met[fmt.Sprint(name, e)])
			}
		}
	}
}

// P11.5: of each number of vertices its own list alone is an order, up to MaxSide; Check's ErrGraph is ErrOrder of Inverse.
func TestBounds(t *testing.T) {
	for n := range 140 {
		want := [2]api.Errno{}
		if n > 128 {
			want = [2]api.Errno{api.ErrGraph, api.ErrOrder}
		}
		l, e := order.Inverse(upTo(n))
		if got := [2]api.Errno{order.Check(n, upTo(n)), e}; got != want || !slices.Equal(l, upTo(n)[:len(l)]) || e == api.OK && len(l) != n {
			t.Errorf("%d: Inverse %v, errors %v, want %v", n, l, got, want)
		}
		if n > 0 && n <= 128 && (order.Check(n, upTo(n-1)) != api.ErrOrder || order.Check(n-1, upTo(n)) != api.ErrOrder) {
			t.Errorf("%d: Check of another number", n)
		}
	}
}

// DOC.md's P1: no call panics, whatever it is given.
func TestNoPanic(t *testing.T) {
	t.Parallel()
	d := dice(14)
	met := map[string]int{}
	for range 30000 {
		h := held{kind: pick(&d, oddKinds()...), n: pick(&d, oddNumbers()...)}
		h.g = d.spoilt()
		if d.next(2) == 0 {
			h.list = d.shuffled(max(0, min(h.g.Rows, 9)))
		}
		if d.next(3) == 0 {
			h.list = d.nearly(h.list)
		}
		for _, c := range allCalls() {
			met[fmt.Sprint(c.name, wantPlain(t, c, h).e)]++
		}
	}
	for _, name := range []string{"Order", "Back", "Degeneracy", "Check"} {
		for _, e := range []api.Errno{api.OK, api.ErrGraph} {
			if met[fmt.Sprint(name, e)] < 1000 {
				t.Errorf("%s: error %d was met %d times", name, e, met[fmt.Sprint(name, e)])
			}
		}
	}
}

// spoilt is a graph at random with odd numbers here and there; some are good.
func (d *dice) spoilt() api.Pattern {
	p := d.small(6).pattern()
	for range d.next(3) {
		n := pick(d, append(oddNumbers(), 0, 1, 2, 3, len(p.Cols))...)
		switch d.next(6) {
		case 0:
			p.Rows = n
		case 1:
			p.Width = n
		case 2:
			p.Rows, p.Width = n, n
		case 3:
			p.Start = append(p.Start, n)
		case 4:
			if len(p.Start) > 0 {
				p.Start[d.next(len(p.Start))] = n
			}
		default:
			if len(p.Cols) > 0 {
				p.Cols[d.next(len(p.Cols))] = n
			}
		}
	}
	return p
}
