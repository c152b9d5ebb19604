package colour_test

import (
	"fmt"
	"slices"
	"testing"

	"slope/api"
	"slope/colour"
)

// wantList fails if a call's list is not this one.
func wantList(t *testing.T, what string, l []int, e api.Errno, want ...int) {
	t.Helper()
	if e != api.OK || !slices.Equal(l, want) {
		t.Errorf("%s: %v, error %d, want %v", what, l, e, want)
	}
}

// wantFaultIs fails if Fault is not this one, or Check doesn't go along.
func wantFaultIs(t *testing.T, kind api.ColourKind, s sheet, colours []int, want ...int) {
	t.Helper()
	l, e := colour.Fault(kind, s.pattern(), colours)
	wantList(t, fmt.Sprint("Fault of kind ", kind, ", colours ", colours), l, e, want...)
	check := api.OK
	if len(want) > 0 {
		check = api.ErrColouring
	}
	if e := colour.Check(kind, s.pattern(), colours); e != check {
		t.Errorf("Check of kind %d, colours %v: %d, want %d", kind, colours, e, check)
	}
}

// wantGreedyIs fails if Greedy's colours are not these, and their number.
func wantGreedyIs(t *testing.T, kind api.ColourKind, s sheet, list []int, n int, want ...int) {
	t.Helper()
	l, m, e := colour.Greedy(kind, s.pattern(), list)
	wantList(t, fmt.Sprint("Greedy of kind ", kind, ", order ", list), l, e, want...)
	if m != n {
		t.Errorf("Greedy of kind %d, order %v: %d colours, want %d", kind, list, m, n)
	}
}

// wantNumber fails if a call's number is not this one.
func wantNumber(t *testing.T, what string, n int, e api.Errno, want int) {
	t.Helper()
	if e != api.OK || n != want {
		t.Errorf("%s: %d, error %d, want %d", what, n, e, want)
	}
}

// wantPattern fails if a call's pattern is not a sheet's.
func wantPattern(t *testing.T, what string, p api.Pattern, e api.Errno, want sheet) {
	t.Helper()
	if s, may := plainRead(p); e != api.OK || !may || fmt.Sprint(s) != fmt.Sprint(want) {
		t.Errorf("%s: %v, error %d, want %v", what, p, e, want.pattern())
	}
}

// P12.2: the chapter's example 1.
func TestExample1(t *testing.T) {
	two := []int{0, 1, 0, 1}
	wantFaultIs(t, api.ColourProper, path(4), two)
	wantFaultIs(t, api.ColourStar, path(4), two, 0, 1, 2, 3)
	wantFaultIs(t, api.ColourAcyclic, path(4), two)
	wantFaultIs(t, api.ColourProper, circle(4), two)
	wantFaultIs(t, api.ColourStar, circle(4), two, 0, 1, 2, 3)
	wantFaultIs(t, api.ColourAcyclic, circle(4), two, 0, 1)
	for _, kind := range graphKinds() {
		wantFaultIs(t, kind, circle(4), []int{0, 1, 0, 0}, 0, 3)
	}
}

// P12.3: the chapter's example 2.
func TestExample2(t *testing.T) {
	wantGreedyIs(t, api.ColourProper, path(4), upTo(4), 2, 0, 1, 0, 1)
	wantGreedyIs(t, api.ColourStar, path(4), upTo(4), 3, 0, 1, 0, 2)
	wantGreedyIs(t, api.ColourAcyclic, path(4), upTo(4), 2, 0, 1, 0, 1)
	wantGreedyIs(t, api.ColourProper, circle(4), upTo(4), 2, 0, 1, 0, 1)
	wantGreedyIs(t, api.ColourStar, circle(4), upTo(4), 3, 0, 1, 0, 2)
	wantGreedyIs(t, api.ColourAcyclic, circle(4), upTo(4), 3, 0, 1, 0, 2)
}

// P12.4 (3): the chapter's example 3, and orders in which what is in common stands behind.
func TestExample3(t *testing.T) {
	for _, x := range []struct {
		kind api.ColourKind
		list []int
		want int
	}{
		{api.ColourProper, []int{0, 1, 2, 3}, 2}, {api.ColourStar, []int{0, 1, 2, 3}, 3}, {api.ColourAcyclic, []int{0, 1, 2, 3}, 3},
		// 2 has 0 in no way ahead, for 1 stands behind it; 1 has 0 and 2, 3 by 2 not: it stands behind
		{api.ColourProper, []int{0, 2, 1, 3}, 3}, {api.ColourStar, []int{0, 2, 1, 3}, 3}, {api.ColourAcyclic, []int{0, 2, 1, 3}, 3},
		// 1 has 0 and 2, and 3 by 2
		{api.ColourProper, []int{0, 3, 2, 1}, 3}, {api.ColourStar, []int{0, 3, 2, 1}, 4}, {api.ColourAcyclic, []int{0, 3, 2, 1}, 4},
	} {
		n, e := colour.Bound(x.kind, path(4).pattern(), x.list)
		wantNumber(t, fmt.Sprint("Bound of kind ", x.kind, ", order ", x.list), n, e, x.want)
	}
}

// P12.1 to P12.5: the chapter's example 4, and the same turned, for rows.
func TestExample4(t *testing.T) {
	s := where(3, 3, func(r, c int) bool { return c == r || c == r+1 })
	p, e := colour.Columns(s.pattern())
	wantPattern(t, "Columns", p, e, path(3))
	p, e = colour.Rows(s.turned().pattern())
	wantPattern(t, "Rows", p, e, path(3))
	for _, x := range []struct {
		kind api.ColourKind
		s    sheet
	}{{api.ColourColumns, s}, {api.ColourRows, s.turned()}} {
		wantGreedyIs(t, x.kind, x.s, upTo(3), 2, 0, 1, 0)
		n, e := colour.Floor(x.kind, x.s.pattern())
		wantNumber(t, "Floor", n, e, 2)
		n, e = colour.Least(x.kind, x.s.pattern())
		wantNumber(t, "Least", n, e, 2)
		wantFaultIs(t, x.kind, x.s, []int{0, 0, 1}, 0, 1, 0)
		wantFaultIs(t, x.kind, x.s, []int{1, 0, 0}, 1, 2, 1)
		wantFaultIs(t, x.kind, x.s, []int{0, 1, 0})
	}
	// row 2 has its places in column 2 alone
	wantFaultIs(t, api.ColourRows, s, []int{0, 0, 0}, 0, 1, 1)
	wantFaultIs(t, api.ColourRows, s, []int{0, 1, 1}, 1, 2, 2)
}

// P12.3 to P12.5, P12.7: the chapter's example 5.
func TestExample5(t *testing.T) {
	for _, kind := range allKinds() {
		for _, x := range []sheet{blank(0), blank(1)} {
			n := x.rows
			wantGreedyIs(t, kind, x, upTo(n), n, make([]int, n)...)
			m, e := colour.Bound(kind, x.pattern(), upTo(n))
			wantNumber(t, "Bound", m, e, n)
			m, e = colour.Floor(kind, x.pattern())
			wantNumber(t, "Floor", m, e, n)
			m, e = colour.Least(kind, x.pattern())
			wantNumber(t, "Least", m, e, n)
			wantFaultIs(t, kind, x, make([]int, n))
		}
		if n, e := colour.Least(kind, blank(9).pattern()); n != 0 || e != api.ErrArg {
			t.Errorf("Least of nine things: %d, error %d", n, e)
		}
	}
	for text, colours := range map[string][]int{"[[1] [0 2]]": {1, 0, 1}, "[[] [] [0]]": {2}, "[]": {}} {
		if l, e := colour.Classes(colours); fmt.Sprint(l) != text || e != api.OK {
			t.Errorf("Classes of %v: %v, error %d", colours, l, e)
		}
	}
}

// P12.1: graphs of columns, rows and what is near, by hand: rows and columns without a place, no rows, no columns.
func TestGraphsByHand(t *testing.T) {
	// rows 0 1 2 3 with {1, 3}, {}, {1, 4}, {4}; columns 0 and 2 are empty
	s := where(4, 5, func(r, c int) bool {
		return r == 0 && (c == 1 || c == 3) || r == 2 && (c == 1 || c == 4) || r == 3 && c == 4
	})
	p, e := colour.Columns(s.pattern())
	wantPattern(t, "Columns", p, e, of(5, [2]int{1, 3}, [2]int{1, 4}))
	p, e = colour.Rows(s.pattern())
	wantPattern(t, "Rows", p, e, of(4, [2]int{0, 2}, [2]int{2, 3}))
	for _, x := range [][2]int{{0, 0}, {0, 3}, {3, 0}, {1, 1}, {128, 1}, {1, 128}, {0, 128}, {128, 128}} {
		empty := where(x[0], x[1], func(_, _ int) bool { return false })
		all := where(x[0], x[1], func(_, _ int) bool { return true })
		p, e := colour.Columns(empty.pattern())
		wantPattern(t, "Columns of no places", p, e, blank(x[1]))
		p, e = colour.Rows(empty.pattern())
		wantPattern(t, "Rows of no places", p, e, blank(x[0]))
		// a side without lines has no places either
		p, e = colour.Columns(all.pattern())
		wantPattern(t, "Columns of all places", p, e, joined(x[1], func(_, _ int) bool { return x[0] > 0 }))
		p, e = colour.Rows(all.pattern())
		wantPattern(t, "Rows of all places", p, e, joined(x[0], func(_, _ int) bool { return x[1] > 0 }))
	}
	p, e = colour.Near(path(5).pattern())
	wantPattern(t, "Near of a path", p, e, joined(5, func(u, v int) bool { return v-u < 3 }))
	p, e = colour.Near(starOf(6).pattern())
	wantPattern(t, "Near of a star", p, e, full(6))
	p, e = colour.Near(circle(5).pattern())
	wantPattern(t, "Near of a circle of five", p, e, full(5))
	// two parts stay two parts
	p, e = colour.Near(of(6, [2]int{0, 2}, [2]int{2, 4}, [2]int{1, 3}).pattern())
	wantPattern(t, "Near of two parts", p, e, of(6, [2]int{0, 2}, [2]int{2, 4}, [2]int{0, 4}, [2]int{1, 3}))
}

// P12.2: the least of several faults, by hand.
func TestFaultsByHand(t *testing.T) {
	// the pair (0, 4) comes ahead of (1, 2)
	for _, kind := range graphKinds() {
		wantFaultIs(t, kind, of(5, [2]int{1, 2}, [2]int{0, 4}), []int{3, 5, 5, 3, 3}, 0, 4)
		wantFaultIs(t, kind, of(4, [2]int{3, 1}, [2]int{2, 1}), []int{0, 7, 7, 7}, 1, 2)
	}
	// the way 4 - 0 - 1 - 2 is told from its lower end: 2 - 1 - 0 - 4; 3 - 0 - 1 - 2 is not of two colours
	s := of(5, [2]int{4, 0}, [2]int{0, 1}, [2]int{1, 2}, [2]int{3, 0})
	wantFaultIs(t, api.ColourStar, s, []int{0, 1, 0, 2, 1}, 2, 1, 0, 4)
	// of 2 - 1 - 0 - 3 and 2 - 1 - 0 - 4 the first
	wantFaultIs(t, api.ColourStar, s, []int{0, 1, 0, 1, 1}, 2, 1, 0, 3)
	// a star in two colours is a star, however many have one of them
	wantFaultIs(t, api.ColourStar, starOf(9), []int{0, 1, 1, 1, 1, 1, 1, 1, 1})
	// a triangle has three colours, so its circle is of no two
	wantFaultIs(t, api.ColourAcyclic, circle(3), []int{0, 1, 2})
	wantFaultIs(t, api.ColourStar, circle(3), []int{0, 1, 2})
	// circles of colours 9 and 65536 and, behind it, of 5 and 65536, with names out of order
	two := of(8, [2]int{0, 1}, [2]int{1, 2}, [2]int{2, 3}, [2]int{3, 0}, [2]int{4, 5}, [2]int{5, 6}, [2]int{6, 7}, [2]int{7, 4})
	wantFaultIs(t, api.ColourAcyclic, two, []int{9, 65536, 9, 65536, 65536, 5, 65536, 5}, 5, 65536)
	wantFaultIs(t, api.ColourAcyclic, two, []int{9, 65536, 9, 65536, 5, 9, 5, 9}, 5, 9)
	wantFaultIs(t, api.ColourAcyclic, two, []int{9, 65536, 9, 65536, 9, 65536, 9, 0}, 9, 65536)
	wantFaultIs(t, api.ColourAcyclic, two, []int{9, 65536, 9, 1, 9, 65536, 9, 0})
	// a circle of six
	wantFaultIs(t, api.ColourAcyclic, circle(6), []int{4, 2, 4, 2, 4, 2}, 2, 4)
	wantFaultIs(t, api.ColourAcyclic, circle(6), []int{4, 2, 4, 2, 4, 3})
	// columns 1 and 3 meet in rows 1 and 2, columns 1 and 2 in row 2 alone
	lines := where(3, 4, func(r, c int) bool { return r == 1 && c != 0 && c != 2 || r == 2 })
	wantFaultIs(t, api.ColourColumns, lines, []int{1, 0, 2, 0}, 1, 3, 1)
	wantFaultIs(t, api.ColourColumns, lines, []int{1, 0, 0, 0}, 1, 2, 2)
	wantFaultIs(t, api.ColourRows, lines.turned(), []int{1, 0, 2, 0}, 1, 3, 1)
	wantFaultIs(t, api.ColourRows, lines.turned(), []int{1, 0, 0, 0}, 1, 2, 2)
}

// P12.3, P12.5: what is known of paths, circles, stars, full graphs, and graphs in parts.
func TestKnown(t *testing.T) {
	for _, x := range []struct {
		what                  string
		s                     sheet
		proper, star, acyclic int
	}{
		{"no edges", blank(8), 1, 1, 1},
		{"one edge", path(2), 2, 2, 2},
		{"a path of three", path(3), 2, 2, 2},
		{"a path of four", path(4), 2, 3, 2},
		{"a path of eight", path(8), 2, 3, 2},
		{"a triangle", circle(3), 3, 3, 3},
		{"a circle of four", circle(4), 2, 3, 3},
		{"a circle of five", circle(5), 3, 4, 3},
		{"a circle of six", circle(6), 2, 3, 3},
		{"a circle of seven", circle(7), 3, 3, 3},
		{"a circle of eight", circle(8), 2, 3, 3},
		{"a star", starOf(8), 2, 2, 2},
		{"a full graph", full(8), 8, 8, 8},
		{"two sides of four", joined(8, func(u, v int) bool { return u < 4 && v >= 4 }), 2, 5, 5},
		{"two sides, two and six", joined(8, func(u, v int) bool { return u < 2 && v >= 2 }), 2, 3, 3},
		{"a cube", joined(8, func(u, v int) bool { x := u ^ v; return x == 1 || x == 2 || x == 4 }), 2, 4, 4},
		{"a path, a triangle, a lonely one", of(7, [2]int{0, 1}, [2]int{1, 2}, [2]int{3, 4}, [2]int{4, 5}, [2]int{5, 3}), 3, 3, 3},
	} {
		for i, want := range []int{x.proper, x.star, x.acyclic} {
			n, e := colour.Least(graphKinds()[i], x.s.pattern())
			wantNumber(t, fmt.Sprint("Least of kind ", graphKinds()[i], ", ", x.what), n, e, want)
		}
	}
	for _, x := range [][2]int{{0, 8}, {1, 8}, {8, 8}, {128, 8}} {
		s := where(x[0], x[1], func(_, _ int) bool { return true })
		want := 8
		if x[0] == 0 {
			want = 1
		}
		n, e := colour.Least(api.ColourColumns, s.pattern())
		wantNumber(t, "Least of all columns", n, e, want)
		n, e = colour.Least(api.ColourRows, s.turned().pattern())
		wantNumber(t, "Least of all rows", n, e, want)
		n, e = colour.Floor(api.ColourColumns, s.pattern())
		wantNumber(t, "Floor of all columns", n, e, want)
		n, e = colour.Floor(api.ColourRows, s.turned().pattern())
		wantNumber(t, "Floor of all rows", n, e, want)
	}
}

// P12.3: what has no colour yet doesn't count, and the least colour that is left is taken, not the next one.
func TestGreedyByHand(t *testing.T) {
	// 0 and 3 get 0; 1 then can't have it; star: 2 lies on 0 - 1 - 2 - 3, where 1 has 1: 0 is 3's
	wantGreedyIs(t, api.ColourProper, path(4), []int{0, 3, 1, 2}, 3, 0, 1, 2, 0)
	wantGreedyIs(t, api.ColourStar, path(4), []int{0, 3, 1, 2}, 3, 0, 1, 2, 0)
	wantGreedyIs(t, api.ColourProper, path(4), []int{3, 1, 2, 0}, 2, 1, 0, 1, 0)
	// 0 is an end: 0 - 1 - 2 - 3 with 1 like 3, so 2's colour is barred, and 1's
	wantGreedyIs(t, api.ColourStar, path(4), []int{3, 1, 2, 0}, 3, 2, 0, 1, 0)
	// 2 is within: 1 and 3 are alike, so what 0 has is barred
	wantGreedyIs(t, api.ColourStar, path(4), []int{1, 3, 0, 2}, 3, 1, 0, 2, 0)
	wantGreedyIs(t, api.ColourAcyclic, path(4), []int{1, 3, 0, 2}, 2, 1, 0, 1, 0)
	// the last of a circle closes it, unless its neighbours are unlike
	wantGreedyIs(t, api.ColourAcyclic, circle(6), []int{0, 1, 2, 3, 4, 5}, 3, 0, 1, 0, 1, 0, 2)
	wantGreedyIs(t, api.ColourAcyclic, circle(5), []int{0, 1, 2, 3, 4}, 3, 0, 1, 0, 1, 2)
	// colours fill what is left below: 5 is next to 0, 1 and 2 of colours 0, 1 and 3
	s := of(6, [2]int{0, 1}, [2]int{2, 0}, [2]int{2, 1}, [2]int{2, 3}, [2]int{3, 0}, [2]int{3, 1}, [2]int{5, 0}, [2]int{5, 1}, [2]int{5, 2})
	wantGreedyIs(t, api.ColourProper, s, []int{0, 1, 3, 2, 5, 4}, 4, 0, 1, 3, 2, 0, 2)
}
