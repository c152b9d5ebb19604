package sparse_test

import (
	"testing"

	"slope/api"
	"slope/sparse"
)

// lists calls f with each list of at most that many numbers from low to high.
func lists(most, low, high int, f func(l []int)) {
	var more func(l []int)
	more = func(l []int) {
		f(l)
		if len(l) == most {
			return
		}
		for n := low; n <= high; n++ {
			more(append(l[:len(l):len(l)], n))
		}
	}
	more(nil)
}

// P9.1: all small patterns, those that may be and those that may not; each set of places is written in just one way.
func TestMayOfAllSmall(t *testing.T) {
	written := map[[2]int]int{}
	for rows := -1; rows <= 2; rows++ {
		for width := -1; width <= 3; width++ {
			lists(4, -1, 3, func(start []int) {
				lists(2, -1, 3, func(cols []int) {
					p := api.Pattern{Rows: rows, Width: width, Start: start, Cols: cols}
					may := sparse.May(p)
					if may != plainMay(p) {
						t.Fatalf("May of %v: %v", p, may)
					}
					if may {
						written[[2]int{rows, width}]++
					}
				})
			})
		}
	}
	for rows := -1; rows <= 2; rows++ {
		for width := -1; width <= 3; width++ {
			n := rows * width
			sets := 1 + n + n*(n-1)/2 // of at most two places
			if rows < 0 || width < 0 {
				sets = 0
			}
			if got := written[[2]int{rows, width}]; got != sets {
				t.Errorf("%d by %d: %d patterns, want %d", rows, width, got, sets)
			}
		}
	}
}

// P9.1, P9.2, P9.9, P9.11: MaxSide rows and columns, and one more of each.
func TestSides(t *testing.T) {
	for _, c := range []struct {
		rows, width int
		fits        bool
	}{{0, 0, true}, {0, 128, true}, {128, 0, true}, {128, 128, true}, {1, 128, true}, {129, 128, false}, {128, 129, false}, {129, 0, false}, {0, 129, false}, {-1, 0, false}, {0, -1, false}, {-1, -1, false}} {
		p, e := sparse.Build(c.rows, c.width, nil, nil)
		m, f := sparse.FromEntries(c.rows, c.width, nil, nil, nil)
		want := unless(c.fits, api.ErrPattern)
		if e != want || f != want || sparse.May(p) != c.fits || sparse.MayMatrix(m) != c.fits {
			t.Errorf("%d by %d: errors %d, %d; %v, %v", c.rows, c.width, e, f, p, m)
		}
		if c.fits && (p.Rows != c.rows || p.Width != c.width || m.P.Rows != c.rows || m.P.Width != c.width) {
			t.Errorf("%d by %d: %v, %v", c.rows, c.width, p, m)
		}
		raw := api.Pattern{Rows: c.rows, Width: c.width, Start: make([]int, max(c.rows+1, 0))}
		if sparse.May(raw) != c.fits {
			t.Errorf("May of %d by %d: %v", c.rows, c.width, !c.fits)
		}
		// Faults of all other kinds stand behind.
		_, e = sparse.Build(c.rows, c.width, ints("500"), nil)
		_, f = sparse.FromEntries(c.rows, c.width, ints("500"), nil, []api.Rat{{}})
		want = firstError(want, api.ErrShape)
		if e != want || f != want {
			t.Errorf("%d by %d, other faults: errors %d, %d, want %d", c.rows, c.width, e, f, want)
		}
		if c.rows < 0 {
			continue
		}
		var l [][]api.Rat
		for range c.rows {
			l = append(l, make([]api.Rat, max(c.width, 0)))
			for i := range l[len(l)-1] {
				l[len(l)-1][i] = num("1")
			}
		}
		m, e = sparse.Sparse(l, c.width)
		if e != unless(c.fits, api.ErrPattern) || c.fits && sparse.Count(m.P) != c.rows*c.width {
			t.Errorf("Sparse of %d by %d: %d places, error %d", c.rows, c.width, sparse.Count(m.P), e)
		}
	}
}

// P9.2, P9.9: the corners of the greatest pattern, and places next to them.
func TestCorners(t *testing.T) {
	for _, c := range []struct {
		r, c int
		want api.Errno
	}{{0, 0, api.OK}, {0, 127, api.OK}, {127, 0, api.OK}, {127, 127, api.OK}, {128, 0, api.ErrArg}, {0, 128, api.ErrArg}, {-1, 0, api.ErrArg}, {0, -1, api.ErrArg}, {127, 128, api.ErrArg}, {128, 127, api.ErrArg}} {
		p, e := sparse.Build(128, 128, []int{5, c.r}, []int{5, c.c})
		m, f := sparse.FromEntries(128, 128, []int{c.r, 5}, []int{c.c, 5}, nums("7 8"))
		if e != c.want || f != c.want {
			t.Errorf("%d, %d: errors %d, %d", c.r, c.c, e, f)
		}
		ok := c.want == api.OK
		v, found := sparse.Get(m, c.r, c.c)
		if sparse.Has(p, c.r, c.c) != ok || found != ok || ok && show(v) != "7" {
			t.Errorf("%d, %d: %v, %s, %v", c.r, c.c, p, show(v), found)
		}
	}
}

// P9.2: a place that is told twice counts once, in any order of the list; Places tells them row by row.
func TestBuildInAnyOrder(t *testing.T) {
	d := dice(3)
	for range 300 {
		p := d.pattern(d.side(), d.side())
		rs, cs, e := sparse.Places(p)
		if e != api.OK || len(rs) != sparse.Count(p) || len(cs) != len(rs) {
			t.Fatalf("Places of %v: %v, %v, error %d", p, rs, cs, e)
		}
		var places [][2]int
		for i := range rs {
			for range 1 + d.next(3) {
				places = append(places, [2]int{rs[i], cs[i]})
			}
		}
		rs, cs = nil, nil
		for _, at := range shuffled(&d, places) {
			rs, cs = append(rs, at[0]), append(cs, at[1])
		}
		q, e := sparse.Build(p.Rows, p.Width, rs, cs)
		wantPattern(t, "Build", q, e, p)
	}
}
