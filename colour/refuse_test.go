package colour_test

import (
	"fmt"
	"math"
	"testing"

	"slope/api"
	"slope/colour"
)

// wrongPatterns are patterns in each way in which they may not be.
func wrongPatterns() map[string]api.Pattern {
	z := map[string]api.Pattern{}
	add := func(what string, spoil func(p *api.Pattern)) {
		p := path(4).pattern() // starts 0 1 3 5 6, columns 1, 0 2, 1 3, 2
		spoil(&p)
		z[what] = p
	}
	add("the zero value", func(p *api.Pattern) { *p = api.Pattern{} })
	add("rows below 0", func(p *api.Pattern) { p.Rows = -1 })
	add("columns below 0", func(p *api.Pattern) { *p = api.Pattern{Width: -1, Start: []int{0}} })
	add("both below 0", func(p *api.Pattern) { *p = api.Pattern{Rows: -1, Width: -1} })
	add("the least rows", func(p *api.Pattern) { p.Rows, p.Width = math.MinInt, math.MinInt })
	add("the greatest rows", func(p *api.Pattern) { p.Rows, p.Width = math.MaxInt, math.MaxInt })
	add("the greatest columns", func(p *api.Pattern) { p.Width = math.MaxInt })
	add("129 vertices", func(p *api.Pattern) { *p = blank(129).pattern() })
	add("129 with all edges", func(p *api.Pattern) { *p = full(129).pattern() })
	add("129 rows", func(p *api.Pattern) { *p = where(129, 1, func(_, _ int) bool { return true }).pattern() })
	add("129 columns", func(p *api.Pattern) { *p = where(1, 129, func(_, _ int) bool { return true }).pattern() })
	add("no starts", func(p *api.Pattern) { p.Start = nil })
	add("a start too few", func(p *api.Pattern) { p.Start = p.Start[:4] })
	add("a start too many", func(p *api.Pattern) { p.Start = append(p.Start, 6) })
	add("first start 1", func(p *api.Pattern) { p.Start[0] = 1 })
	add("first start below 0", func(p *api.Pattern) { p.Start[0] = -1 })
	add("starts that fall", func(p *api.Pattern) { p.Start[2] = 0 })
	add("a start beyond", func(p *api.Pattern) { p.Start[2] = math.MaxInt })
	add("last start less", func(p *api.Pattern) { p.Start[4] = 5 })
	add("last start more", func(p *api.Pattern) { p.Start[4] = 7 })
	add("no columns", func(p *api.Pattern) { p.Cols = nil })
	add("a column below 0", func(p *api.Pattern) { p.Cols[0] = -1 })
	add("a column too great", func(p *api.Pattern) { p.Cols[5] = 4 })
	add("a column twice", func(p *api.Pattern) { p.Cols[2] = 0 })
	add("columns that fall", func(p *api.Pattern) { p.Cols[1], p.Cols[2] = 2, 0 })
	add("two faults", func(p *api.Pattern) { p.Width, p.Cols[3] = 7, -5 })
	return z
}

// noGraphs are patterns that may be and are no graph.
func noGraphs() map[string]sheet {
	return map[string]sheet{
		"more rows than columns":   where(4, 3, func(_, _ int) bool { return false }),
		"more columns than rows":   where(3, 4, func(r, c int) bool { return r == c }),
		"columns of no rows":       where(0, 1, func(_, _ int) bool { return false }),
		"rows of no columns":       where(1, 0, func(_, _ int) bool { return false }),
		"an entry one way":         where(2, 2, func(r, c int) bool { return r < c }),
		"an entry the other way":   where(2, 2, func(r, c int) bool { return r > c }),
		"on the diagonal alone":    where(1, 1, func(_, _ int) bool { return true }),
		"all of the diagonal":      where(4, 4, func(r, c int) bool { return r == c }),
		"the last on the diagonal": where(4, 4, func(r, c int) bool { return r == 3 && c == 3 || path(4).has[r][c] }),
		"all places":               where(4, 4, func(_, _ int) bool { return true }),
		"nine, not symmetric":      where(9, 9, func(r, c int) bool { return c == r+1 }),
		"nine on eight":            where(9, 8, func(r, c int) bool { return c == r }),
		"128, one too many":        where(128, 128, func(r, c int) bool { return r != c || r == 127 }),
		"128, one missing":         where(128, 128, func(r, c int) bool { return r != c && (r != 127 || c != 126) }),
	}
}

// oddKinds are all five kinds, and others.
func oddKinds() []api.ColourKind {
	return append(allKinds(), math.MinInt, -5, -1, 0, 6, 7, 128, math.MaxInt)
}

// oddLists are lists that are orders, or colours, of some things, and others.
func oddLists() [][]int {
	return [][]int{nil, {}, {0}, {1}, {-1}, {0, 1}, {0, 1, 2}, {0, 1, 2, 3}, {2, 0, 3, 1}, {0, 1, 2, 2}, {0, 0, 0, 0}, {0, 1, 2, 4}, {0, 1, 2, -1}, {-1, 1, 2, 3}, {0, 1, 2, 3, 4}, {0, 1, 2, 3, 3}, {1, 2, 3, 4}, {math.MinInt, 1, 2, 3}, {0, 1, 2, math.MaxInt}, {0, 65536, 65535, 1}, {0, 1, 65537, 2}, {65536, 65536, 65536, -1}, upTo(8), upTo(9), upTo(127), upTo(128), upTo(129), make([]int, 128), make([]int, 129), make([]int, 70000)}
}

// isNothing tells whether an answer has nothing but its error.
func (a answer) isNothing() bool { return a.same(answer{e: a.e}) }

// wantErrors fails unless the named calls answer this error and nothing beside it.
func wantErrors(t *testing.T, what string, h held, e api.Errno, names ...string) {
	t.Helper()
	for _, name := range names {
		if a := callOf(name).do(h); a.e != e || !a.isNothing() {
			t.Errorf("%s: %s of kind %d, order %s, colours %s: %s, want error %d", what, name, h.kind, short(fmt.Sprint(h.list)), short(fmt.Sprint(h.colours)), short(a.text()), e)
		}
	}
}

// P12.1 to P12.5: each pattern that may not be is ErrPattern, whatever stands beside it.
func TestPatternFaults(t *testing.T) {
	t.Parallel()
	for what, p := range wrongPatterns() {
		if _, may := plainRead(p); may {
			t.Fatalf("%s may be", what)
		}
		wantErrors(t, what, held{p: p}, api.ErrPattern, "Columns", "Rows", "Near")
		for _, kind := range oddKinds() {
			wantErrors(t, what, held{p: p, kind: kind}, api.ErrPattern, "Floor", "Least")
			for _, l := range oddLists() {
				h := held{kind: kind, p: p, list: l, colours: l}
				wantErrors(t, what, h, api.ErrPattern, "Check", "Fault", "Greedy", "Bound")
			}
		}
	}
}

// P12.2 to P12.5: each kind that is none is ErrColourKind, of graphs and of patterns that are none, whatever lists stand beside it.
func TestKindFaults(t *testing.T) {
	t.Parallel()
	sheets := noGraphs()
	for _, n := range []int{0, 1, 4, 8, 9, 128} {
		sheets[fmt.Sprint("a path of ", n)] = path(n)
	}
	for what, s := range sheets {
		p := s.pattern()
		for _, kind := range oddKinds()[5:] {
			wantErrors(t, what, held{p: p, kind: kind}, api.ErrColourKind, "Floor", "Least")
			for _, l := range oddLists() {
				h := held{kind: kind, p: p, list: l, colours: l}
				wantErrors(t, what, h, api.ErrColourKind, "Check", "Fault", "Greedy", "Bound")
			}
		}
	}
}

// P12.1 to P12.5: each pattern that is no graph is ErrGraph with the kinds of graphs, whatever lists stand beside it; the kinds of patterns take it.
func TestGraphFaults(t *testing.T) {
	t.Parallel()
	for what, s := range noGraphs() {
		p := s.pattern()
		wantErrors(t, what, held{p: p}, api.ErrGraph, "Near")
		for _, kind := range graphKinds() {
			wantErrors(t, what, held{p: p, kind: kind}, api.ErrGraph, "Floor", "Least")
			for _, l := range oddLists() {
				h := held{kind: kind, p: p, list: l, colours: l}
				wantErrors(t, what, h, api.ErrGraph, "Check", "Fault", "Greedy", "Bound")
			}
		}
		for _, kind := range []api.ColourKind{api.ColourColumns, api.ColourRows} {
			l := upTo(s.things(kind))
			for _, name := range []string{"Columns", "Rows", "Check", "Fault", "Greedy", "Bound", "Floor"} {
				if a := callOf(name).do(held{kind: kind, p: p, list: l, colours: l}); a.e != api.OK {
					t.Errorf("%s: %s of kind %d: error %d", what, name, kind, a.e)
				}
			}
		}
	}
}

// P12.3, P12.4, P12.2: lists of the columns' number where rows are asked, and the other way round; a graph's vertices are as many as both.
func TestOtherSide(t *testing.T) {
	for _, x := range [][2]int{{2, 3}, {0, 1}, {1, 0}, {127, 128}, {5, 128}} {
		p := where(x[0], x[1], func(r, c int) bool { return r == c }).pattern()
		for i, kind := range []api.ColourKind{api.ColourRows, api.ColourColumns} {
			mine, other := upTo(x[i]), upTo(x[1-i])
			for _, name := range []string{"Check", "Fault", "Greedy", "Bound"} {
				if a := callOf(name).do(held{kind: kind, p: p, list: mine, colours: mine}); a.e != api.OK {
					t.Errorf("%v: %s of kind %d: error %d", x, name, kind, a.e)
				}
			}
			h := held{kind: kind, p: p, list: other, colours: other}
			wantErrors(t, fmt.Sprint(x), h, api.ErrOrder, "Greedy", "Bound")
			wantErrors(t, fmt.Sprint(x), h, api.ErrColours, "Check", "Fault")
		}
	}
}

// P12.3, P12.4: lists that are no order of four things are ErrOrder, for every kind.
func TestOrderFaults(t *testing.T) {
	for _, kind := range allKinds() {
		for _, l := range [][]int{nil, {}, {0}, {0, 1, 2}, {0, 1, 2, 3, 4}, {0, 1, 2, 3, 3}, {0, 1, 2, 2}, {1, 2, 3, 4}, {-1, 0, 1, 2}, {0, 1, 2, 4}, {0, 0, 0, 0}, {0, 1, 2, math.MaxInt}, {math.MinInt, 1, 2, 3}, make([]int, 5000)} {
			wantErrors(t, "a path", held{kind: kind, p: path(4).pattern(), list: l}, api.ErrOrder, "Greedy", "Bound")
		}
		wantErrors(t, "no things", held{kind: kind, p: blank(0).pattern(), list: []int{0}}, api.ErrOrder, "Greedy", "Bound")
		wantErrors(t, "128", held{kind: kind, p: full(128).pattern(), list: upTo(127)}, api.ErrOrder, "Greedy", "Bound")
		wantErrors(t, "128", held{kind: kind, p: full(128).pattern(), list: upTo(129)}, api.ErrOrder, "Greedy", "Bound")
	}
}

// P12.2, P12.7: colours too few, too many, below 0, above MaxColour are ErrColours, also where they would be no colouring; at 0 and at MaxColour they are colours.
func TestColourFaults(t *testing.T) {
	for _, kind := range allKinds() {
		h := held{kind: kind, p: path(4).pattern()}
		for _, l := range [][]int{nil, {0, 1, 2}, {0, 0, 0}, {0, 1, 2, 3, 4}, {0, 0, 0, 0, 0}, {0, 1, 2, -1}, {-1, 1, 2, 3}, {0, 0, 0, -1}, {65537, 1, 2, 3}, {0, 1, 2, 65537}, {0, 0, 0, 65537}, {-1, -1, -1, -1}, {math.MaxInt, math.MinInt, math.MaxInt, math.MinInt}, make([]int, 70000)} {
			h.colours = l
			wantErrors(t, "a path", h, api.ErrColours, "Check", "Fault")
		}
		for _, l := range [][]int{{0, 1, 65536, 2}, {65536, 0, 65535, 1}, {65533, 65534, 65535, 65536}} {
			wantFaultIs(t, kind, path(4), l)
		}
		h = held{kind: kind, p: blank(0).pattern(), colours: []int{0}}
		wantErrors(t, "no things", h, api.ErrColours, "Check", "Fault")
	}
	for _, l := range [][]int{{-1}, {0, -1}, {65537}, {math.MaxInt}, {math.MinInt}, make([]int, 129), make([]int, 70000), append(make([]int, 128), -1)} {
		wantErrors(t, "classes", held{colours: l}, api.ErrColours, "Classes")
	}
	if l, e := colour.Classes([]int{65536}); len(l) != 65537 || e != api.OK || len(l[65536]) != 1 {
		t.Errorf("Classes of MaxColour: %d, error %d", len(l), e)
	}
}

// P12.5: more than 8 things are ErrArg; as many as that on the other side are not.
func TestLeastFaults(t *testing.T) {
	for _, n := range []int{9, 10, 127, 128} {
		for _, kind := range allKinds() {
			wantErrors(t, "a path", held{kind: kind, p: path(n).pattern()}, api.ErrArg, "Least")
			wantErrors(t, "no edges", held{kind: kind, p: blank(n).pattern()}, api.ErrArg, "Least")
		}
		s := where(n, 8, func(r, c int) bool { return r%9 == c })
		m, e := colour.Least(api.ColourColumns, s.pattern())
		wantNumber(t, "eight columns", m, e, 1)
		wantErrors(t, "many rows", held{kind: api.ColourRows, p: s.pattern()}, api.ErrArg, "Least")
		m, e = colour.Least(api.ColourRows, s.turned().pattern())
		wantNumber(t, "eight rows", m, e, 1)
		wantErrors(t, "many columns", held{kind: api.ColourColumns, p: s.turned().pattern()}, api.ErrArg, "Least")
	}
}

// DOC.md's P4: all faults side by side, in the chapter's order.
func TestFaultsAtOnce(t *testing.T) {
	t.Parallel()
	met := map[string]int{}
	patterns := []api.Pattern{blank(0).pattern(), blank(1).pattern(), path(4).pattern(), circle(4).pattern(), path(8).pattern(), starOf(9).pattern(), blank(128).pattern()}
	for _, p := range wrongPatterns() {
		patterns = append(patterns, p)
	}
	for _, s := range noGraphs() {
		if s.rows < 100 {
			patterns = append(patterns, s.pattern())
		}
	}
	for _, p := range patterns {
		for _, kind := range oddKinds() {
			for _, l := range oddLists() {
				h := held{kind: kind, p: p, list: l, colours: l}
				for _, name := range []string{"Check", "Fault", "Greedy", "Bound"} {
					a := wantPlain(t, callOf(name), h)
					met[fmt.Sprint(name, a.e)]++
					if a.e != api.OK && !a.isNothing() {
						t.Errorf("%s: %s", name, short(a.text()))
					}
				}
			}
			for _, name := range []string{"Near", "Floor", "Least"} {
				met[fmt.Sprint(name, wantPlain(t, callOf(name), held{kind: kind, p: p}).e)]++
			}
		}
	}
	looks := []api.Errno{api.OK, api.ErrPattern, api.ErrColourKind, api.ErrGraph}
	for name, errors := range map[string][]api.Errno{"Check": append(looks, api.ErrColours, api.ErrColouring), "Fault": append(looks, api.ErrColours), "Greedy": append(looks, api.ErrOrder), "Bound": append(looks, api.ErrOrder), "Near": {api.OK, api.ErrPattern, api.ErrGraph}, "Floor": looks, "Least": append(looks, api.ErrArg)} {
		for _, e := range errors {
			if met[fmt.Sprint(name, e)] < 5 {
				t.Errorf("%s: error %d was met %d times", name, e, met[fmt.Sprint(name, e)])
			}
		}
	}
}

// DOC.md's P1: no call panics, whatever it is given.
func TestNoPanic(t *testing.T) {
	t.Parallel()
	d := dice(14)
	met := map[string]int{}
	for range 5000 {
		h := held{kind: pick(&d, append(allKinds(), oddKinds()...)...), p: d.spoilt()}
		n := max(0, min(pick(&d, h.p.Rows, h.p.Width), 9))
		h.list, h.colours = d.shuffled(n), d.someColours(n, 4)
		if d.next(3) == 0 {
			h.list = d.nearly(h.list, n)
		}
		if d.next(3) == 0 {
			h.colours = d.nearly(h.colours, pick(&d, n, api.MaxColour, math.MaxInt-1))
		}
		for _, c := range allCalls() {
			met[fmt.Sprint(c.name, wantPlain(t, c, h).e)]++
		}
	}
	for _, c := range allCalls()[:9] {
		for _, e := range []api.Errno{api.OK, api.ErrPattern} {
			if met[fmt.Sprint(c.name, e)] < 300 {
				t.Errorf("%s: error %d was met %d times", c.name, e, met[fmt.Sprint(c.name, e)])
			}
		}
	}
}

// spoilt is a graph or a pattern at random with odd numbers here and there; some are good.
func (d *dice) spoilt() api.Pattern {
	p := d.small(pick(d, api.ColourProper, api.ColourProper, api.ColourColumns), 6).pattern()
	for range d.next(3) {
		n := pick(d, math.MinInt, -129, -1, 0, 1, 2, 3, 4, 127, 128, 129, 1<<32, math.MaxInt, len(p.Cols))
		switch d.next(6) {
		case 0:
			p.Rows = n
		case 1:
			p.Width = n
		case 2:
			p.Rows, p.Width = n, n
		case 3:
			p.Start = append(p.Start, n)
		case 4:
			if len(p.Start) > 0 {
				p.Start[d.next(len(p.Start))] = n
			}
		default:
			if len(p.Cols) > 0 {
				p.Cols[d.next(len(p.Cols))] = n
			}
		}
	}
	return p
}
