package sparse_test

import (
	"fmt"
	"testing"

	"slope/api"
	"slope/sparse"
)

// columnOf is a matrix of one column.
func columnOf(l []api.Rat) api.Matrix {
	m := api.Matrix{P: api.Pattern{Rows: len(l), Width: 1, Start: []int{0}}, Vals: l}
	for i := range l {
		m.P.Start = append(m.P.Start, i+1)
		m.P.Cols = append(m.P.Cols, 0)
	}
	return m
}

// rowOf is a matrix of one row.
func rowOf(l []api.Rat) api.Matrix {
	m := api.Matrix{P: api.Pattern{Rows: 1, Width: len(l), Start: []int{0, len(l)}}, Vals: l}
	for i := range l {
		m.P.Cols = append(m.P.Cols, i)
	}
	return m
}

// sums are numbers to be added up, at MaxLimbs limbs and just above it; whether a sum on the way is too large.
func sums() map[string]struct {
	l   []api.Rat
	big bool
} {
	top, half, one := twoTo(65536, -1), twoTo(65535, 0), num("1")
	low := under(twoTo(65535, 1)) // odd below
	return map[string]struct {
		l   []api.Rat
		big bool
	}{
		"the greatest":                     {[]api.Rat{top}, false},
		"the least":                        {[]api.Rat{minus(top)}, false},
		"the greatest and 0":               {[]api.Rat{top, num("0")}, false},
		"just above":                       {[]api.Rat{top, one}, true},
		"just below":                       {[]api.Rat{minus(top), minus(one)}, true},
		"up to the edge":                   {[]api.Rat{twoTo(65536, -2), one}, false},
		"halves":                           {[]api.Rat{half, half}, true},
		"halves but one":                   {[]api.Rat{half, twoTo(65535, -1)}, false},
		"above on the way":                 {[]api.Rat{top, one, minus(one)}, true},
		"above on the way, the whole 0":    {[]api.Rat{half, half, minus(half), minus(half)}, true},
		"the same in another order":        {[]api.Rat{half, minus(half), half, minus(half)}, false},
		"the same, begun below":            {[]api.Rat{minus(one), top, one}, false},
		"a part of 1":                      {[]api.Rat{top, num("1/2")}, true},
		"a Den at the edge":                {[]api.Rat{under(top), num("1")}, true},
		"a Den at the edge, twice":         {[]api.Rat{under(top), under(top)}, false},
		"a Den that is lowered":            {[]api.Rat{under(half), under(half)}, false},
		"Dens that go together":            {[]api.Rat{low, num("1/2")}, true},
		"Dens that go together on the way": {[]api.Rat{low, num("1/2"), minus(low)}, true},
		"Dens that are gone in time":       {[]api.Rat{low, minus(low), num("1/2")}, false},
	}
}

// P9.9: numbers for one place are added up in the list's order: ErrBig, if a sum on the way is that large.
func TestLargeEntries(t *testing.T) {
	for name, c := range sums() {
		var rs, cs []int
		for range c.l {
			rs, cs = append(rs, 0), append(cs, 1)
		}
		h := held{rows: 1, width: 3, rs: rs, cs: cs, vals: c.l}
		m, e := sparse.FromEntries(h.rows, h.width, h.rs, h.cs, h.vals)
		if e != unless(!c.big, api.ErrBig) || matrixAnswer(m, e).text() != wantEntries(h).text() {
			t.Errorf("%s: error %d", name, e)
		}
		// Numbers for other places stand between them, and are not added to them.
		h.rs, h.cs, h.vals = nil, nil, nil
		for i, v := range c.l {
			h.rs, h.cs, h.vals = append(h.rs, 0, 0, 0), append(h.cs, 0, 1, 2), append(h.vals, num(fmt.Sprint(i)), v, num("-1/3"))
		}
		m, e = sparse.FromEntries(h.rows, h.width, h.rs, h.cs, h.vals)
		if e != unless(!c.big, api.ErrBig) || matrixAnswer(m, e).text() != wantEntries(h).text() {
			t.Errorf("%s, among others: error %d", name, e)
		}
	}
}

// P9.10: Plus at the edge.
func TestLargePlus(t *testing.T) {
	for name, c := range sums() {
		if len(c.l) != 2 {
			continue
		}
		for _, turned := range []bool{false, true} {
			h := held{m: rowOf([]api.Rat{num("1"), c.l[0]}), beside: rowOf([]api.Rat{num("2"), c.l[1]})}
			if turned {
				h.m, h.beside = h.beside, h.m
			}
			m, e := sparse.Plus(h.m, h.beside)
			if e != unless(!c.big, api.ErrBig) || matrixAnswer(m, e).text() != wantPlus(h).text() {
				t.Errorf("%s: error %d", name, e)
			}
		}
	}
	// Numbers at unlike places are not added up.
	top := twoTo(65536, -1)
	m, e := sparse.Plus(mat(1, 2, "0,0=1"), api.Matrix{P: pat(1, 2, "0,1"), Vals: []api.Rat{top}})
	wantMatrix(t, "Plus", m, e, rowOf([]api.Rat{num("1"), top}))
}

// P9.10: an entry's products are added up by rising j: ErrBig, if a product, or a sum on the way, is that large.
func TestLargeTimes(t *testing.T) {
	for name, c := range sums() {
		ones := make([]api.Rat, len(c.l))
		for i := range ones {
			ones[i] = num("1")
		}
		for _, h := range []held{{m: rowOf(c.l), own: columnOf(ones)}, {m: rowOf(ones), own: columnOf(c.l)}} {
			m, e := sparse.Times(h.m, h.own)
			if e != unless(!c.big, api.ErrBig) || matrixAnswer(m, e).text() != wantTimes(h).text() {
				t.Errorf("%s: error %d", name, e)
			}
		}
	}
	root := twoTo(32768, 0)
	for _, c := range []struct {
		name string
		a, b []api.Rat
		big  bool
	}{
		{"a product at the edge", []api.Rat{twoTo(32768, -1)}, []api.Rat{twoTo(32768, 1)}, false},
		{"a product just above", []api.Rat{root}, []api.Rat{root}, true},
		{"a product below 0", []api.Rat{minus(root)}, []api.Rat{root}, true},
		{"a product whose Den is at the edge", []api.Rat{under(twoTo(32768, -1))}, []api.Rat{under(twoTo(32768, 1))}, false},
		{"a product whose Den is just above", []api.Rat{under(root)}, []api.Rat{under(root)}, true},
		{"a product that is lowered", []api.Rat{root, twoTo(65535, 0)}, []api.Rat{under(root), under(twoTo(65535, 0))}, false},
		{"a product that the next one takes away", []api.Rat{root, minus(root)}, []api.Rat{root, root}, true},
		{"a product last", []api.Rat{num("1"), root}, []api.Rat{num("1"), root}, true},
		{"by 0", []api.Rat{twoTo(65536, -1), num("0")}, []api.Rat{num("0"), twoTo(65536, -1)}, false},
	} {
		h := held{m: rowOf(c.a), own: columnOf(c.b)}
		m, e := sparse.Times(h.m, h.own)
		if e != unless(!c.big, api.ErrBig) || matrixAnswer(m, e).text() != wantTimes(h).text() {
			t.Errorf("%s: error %d", c.name, e)
		}
		// Columns that only one of them has don't meet.
		m, e = sparse.Times(api.Matrix{P: pat(1, 2, "0,0"), Vals: c.a[:1]}, api.Matrix{P: pat(2, 1, "1,0"), Vals: c.b[:1]})
		wantMatrix(t, c.name+", apart", m, e, mat(1, 1, ""))
	}
	// The last entry of many alone.
	h := held{m: mat(2, 2, "0,0=1 0,1=1 1,0=1 1,1=1"), own: mat(2, 2, "0,0=1 0,1=1 1,0=1 1,1=1")}
	h.m.Vals[3], h.own.Vals[3] = root, root
	m, e := sparse.Times(h.m, h.own)
	if e != api.ErrBig || matrixAnswer(m, e).text() != wantTimes(h).text() {
		t.Errorf("the last entry: error %d", e)
	}
}

// P9.9 to P9.12: large numbers that are passed on whole.
func TestLargeMoves(t *testing.T) {
	top, low := twoTo(65536, -1), minus(under(twoTo(65536, -1)))
	m := api.Matrix{P: pat(2, 2, "0,1 1,0"), Vals: []api.Rat{top, low}}
	h := held{m: m, beside: m, next: pat(2, 2, "0,0 0,1 1,0"), r: 1, dense: [][]api.Rat{{top, num("0")}, {low, top}}, width: 2}
	for _, c := range matrixCalls() {
		if c.name == "Plus" || c.name == "Times" || c.name == "FromEntries" {
			continue
		}
		got := c.do(h)
		if got.e != api.OK || got.text() != c.want(h).text() {
			t.Errorf("%s: error %d", c.name, got.e)
		}
	}
	if !sparse.Same(m, m) || !sparse.MayMatrix(m) {
		t.Error("Same, MayMatrix")
	}
	if v, found := sparse.Get(m, 1, 0); !found || show(v) != show(low) {
		t.Error("Get")
	}
}
