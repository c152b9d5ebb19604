package sparse_test

import (
	"fmt"
	"math"
	"slices"
	"testing"

	"slope/api"
)

// wrongPatterns are a pattern in each way in which it may not be.
func wrongPatterns() map[string]api.Pattern {
	good := func() api.Pattern { return pat(3, 4, "0,0 0,2 0,3 2,1 2,2") }
	z := map[string]api.Pattern{}
	for name, spoil := range map[string]func(p *api.Pattern){
		"the zero value":              func(p *api.Pattern) { *p = api.Pattern{} },
		"Rows below 0":                func(p *api.Pattern) { *p = api.Pattern{Rows: -1} },
		"Rows below 0, Start too":     func(p *api.Pattern) { *p = api.Pattern{Rows: -1, Start: []int{0}} },
		"the least Rows":              func(p *api.Pattern) { p.Rows = math.MinInt },
		"the greatest Rows":           func(p *api.Pattern) { p.Rows = math.MaxInt },
		"Rows that wrap to none":      func(p *api.Pattern) { *p = api.Pattern{Rows: -1, Start: []int{}} },
		"too many Rows":               func(p *api.Pattern) { *p = api.Pattern{Rows: 129, Width: 4, Start: make([]int, 130)} },
		"Width below 0":               func(p *api.Pattern) { *p = api.Pattern{Rows: 1, Width: -1, Start: make([]int, 2)} },
		"Width above 128":             func(p *api.Pattern) { p.Width = 129 },
		"the greatest Width":          func(p *api.Pattern) { p.Width = math.MaxInt },
		"no Start":                    func(p *api.Pattern) { p.Start = nil },
		"Start too short":             func(p *api.Pattern) { p.Start = p.Start[:3] },
		"Start too short by an end":   func(p *api.Pattern) { p.Start = ints("0 3 5") },
		"Start too long":              func(p *api.Pattern) { p.Start = ints("0 3 3 5 5") },
		"Start from 1 on":             func(p *api.Pattern) { p.Start[0] = 1 },
		"Start from -1 on":            func(p *api.Pattern) { p.Start[0] = -1 },
		"Start falls":                 func(p *api.Pattern) { p.Start = ints("0 4 3 5") },
		"Start falls below 0":         func(p *api.Pattern) { p.Start = ints("0 -1 3 5") },
		"Start far beyond, and falls": func(p *api.Pattern) { p.Start[1] = math.MaxInt },
		"Start beyond the end":        func(p *api.Pattern) { p.Start[3] = 6 },
		"Start short of the end":      func(p *api.Pattern) { p.Start[3] = 4 },
		"more Cols":                   func(p *api.Pattern) { p.Cols = append(p.Cols, 3) },
		"fewer Cols":                  func(p *api.Pattern) { p.Cols = p.Cols[:4] },
		"no Cols":                     func(p *api.Pattern) { p.Cols = nil },
		"a column twice":              func(p *api.Pattern) { p.Cols[1] = 0 },
		"columns that fall":           func(p *api.Pattern) { p.Cols[3], p.Cols[4] = 2, 1 },
		"a column below 0":            func(p *api.Pattern) { p.Cols[0] = -1 },
		"the last column out":         func(p *api.Pattern) { p.Cols[2] = 4 },
		"the very last column out":    func(p *api.Pattern) { p.Cols[4] = math.MaxInt },
		"the least column":            func(p *api.Pattern) { p.Cols[3] = math.MinInt },
	} {
		p := good()
		spoil(&p)
		z[name] = p
	}
	return z
}

// wrongMatrices are a matrix in each way in which it may not be.
func wrongMatrices() map[string]api.Matrix {
	good := func() api.Matrix { return mat(3, 4, "0,0=1 0,2=2/3 0,3=0 2,1=-5 2,2=7") }
	z := map[string]api.Matrix{}
	for name, p := range wrongPatterns() {
		z[name] = api.Matrix{P: p, Vals: nums("1 2 3 4 5 6 7 8")[:len(p.Cols)]}
	}
	few, many, none := good(), good(), good()
	few.Vals, many.Vals, none.Vals = few.Vals[:4], append(many.Vals, num("1")), nil
	z["too few numbers"], z["too many numbers"], z["no numbers"] = few, many, none
	z["a number for no place"] = api.Matrix{P: pat(0, 0, ""), Vals: nums("1")}
	for i, r := range wrongNumbers() {
		for _, at := range []int{0, 2, 4} {
			m := good()
			m.Vals[at] = r
			z[fmt.Sprint("number ", i, " at ", at)] = m
		}
	}
	return z
}

// sortedOf is a map's values in the order of their names.
func sortedOf[T any](m map[string]T) []T {
	var names []string
	for name := range m {
		names = append(names, name)
	}
	slices.Sort(names)
	var z []T
	for _, name := range names {
		z = append(z, m[name])
	}
	return z
}

// odd are numbers that are mostly out of range.
func odd() []int {
	return []int{math.MinInt, math.MinInt + 1, -129, -2, -1, -1, 0, 1, 2, 3, 7, 127, 128, 129, 1 << 32, math.MaxInt - 1, math.MaxInt}
}

// held is what calls are given at random: mostly nothing is wrong with it.
func (d *dice) held() held {
	rows, width := d.side(), d.side()
	if d.next(2) == 0 {
		width = rows
	}
	h := held{p: d.pattern(rows, width), m: d.matrix(rows, width), beside: d.matrix(rows, width), rows: rows, width: width}
	h.next = pick(d, d.pattern(width, d.side()), d.pattern(rows, width))
	h.own = d.matrix(width, d.side())
	for range d.next(4) {
		h.list = append(h.list, d.pattern(rows, width))
	}
	if rows*width > 0 {
		for range d.next(2 * rows * width) {
			h.rs, h.cs, h.vals = append(h.rs, d.next(rows)), append(h.cs, d.next(width)), append(h.vals, d.number())
		}
	}
	for range rows {
		var l []api.Rat
		for range width {
			l = append(l, d.number())
		}
		h.dense = append(h.dense, l)
	}
	h.byRows, h.byCols = d.order(rows), d.order(width)
	h.r, h.c = d.next(rows+1), d.next(width+1)
	if d.next(8) == 0 {
		h.p = d.symmetric(rows)
	}
	if d.next(4) == 0 {
		h.beside = h.m
	}
	if d.next(6) == 0 {
		h.next = d.wider(h.m.P)
	}
	return h
}

// symmetric is a symmetric pattern at random.
func (d *dice) symmetric(n int) api.Pattern {
	s := d.sheet(n, n)
	return mark(n, n, func(r, c int) bool { return s.at[min(r, c)][max(r, c)] != nil }).pattern()
}

// wider is a pattern with all places of another one, and some more.
func (d *dice) wider(p api.Pattern) api.Pattern {
	s, more := sheetOf(p), d.sheet(p.Rows, p.Width)
	return mark(p.Rows, p.Width, func(r, c int) bool { return s.at[r][c] != nil || more.at[r][c] != nil }).pattern()
}

// spoil makes one thing of it wrong.
func (d *dice) spoil(h *held, patterns []api.Pattern, matrices []api.Matrix) {
	switch d.next(16) {
	case 0:
		h.p = pick(d, patterns...)
	case 1:
		h.next = pick(d, patterns...)
	case 2:
		h.list = append(shuffled(d, h.list), pick(d, patterns...))
	case 3:
		h.list = append(h.list, d.pattern(d.side(), d.side()))
	case 4:
		h.m = pick(d, matrices...)
	case 5:
		h.beside = pick(d, matrices...)
	case 6:
		h.own = pick(d, matrices...)
	case 7:
		h.beside, h.own, h.next = d.matrix(d.side(), d.side()), d.matrix(d.side(), d.side()), d.pattern(d.side(), d.side())
	case 8:
		h.rows = pick(d, odd()...)
	case 9:
		h.width = pick(d, odd()...)
	case 10:
		at := pick(d, &h.rs, &h.cs)
		*at = shuffled(d, append(slices.Clone(*at), pick(d, odd()...)))
	case 11:
		h.vals = shuffled(d, append(slices.Clone(h.vals), pick(d, append(wrongNumbers(), d.number())...)))
	case 12:
		h.rs, h.cs, h.vals = append(h.rs, pick(d, odd()...)), append(h.cs, pick(d, odd()...)), append(h.vals, pick(d, append(wrongNumbers(), nums("1 2 3 4")...)...))
	case 13:
		at := pick(d, &h.byRows, &h.byCols)
		*at = d.spoilOrder(*at)
	case 14:
		h.dense = slices.Clone(h.dense)
		if len(h.dense) > 0 {
			r := d.next(len(h.dense))
			h.dense[r] = shuffled(d, append(slices.Clone(h.dense[r]), pick(d, append(wrongNumbers(), d.number())...)))[d.next(2):]
		}
	case 15:
		h.r, h.c = pick(d, odd()...), pick(d, odd()...)
	}
}

// spoilOrder is a list that is no order any more, mostly.
func (d *dice) spoilOrder(l []int) []int {
	z := slices.Clone(l)
	switch d.next(4) {
	case 0:
		return append(z, len(z))
	case 1:
		return z[:max(len(z)-1, 0)]
	}
	if len(z) > 0 {
		z[d.next(len(z))] = pick(d, append(odd(), len(z), z[0])...)
	}
	return z
}

// P9.1 to P9.12, and the order of errors, over arguments of all kinds: each call against the plain one. DOC.md's P1: no call panics.
func TestAllCalls(t *testing.T) {
	t.Parallel()
	d := dice(1)
	patterns, matrices := sortedOf(wrongPatterns()), sortedOf(wrongMatrices())
	huge := twoTo(65536, -1)
	met := map[string]map[api.Errno]int{}
	for i := range 12000 {
		h := d.held()
		if i%50 == 0 {
			h.makeHuge(huge)
		}
		for range pick(&d, 0, 0, 1, 2, 4) {
			d.spoil(&h, patterns, matrices)
		}
		for _, c := range allCalls() {
			got, want := c.do(h), c.want(h)
			if got.text() != want.text() {
				t.Fatalf("%s of %+v: %s, want %s", c.name, short(fmt.Sprintf("%+v", h)), short(got.text()), short(want.text()))
			}
			if met[c.name] == nil {
				met[c.name] = map[api.Errno]int{}
			}
			met[c.name][got.e]++
		}
	}
	for name, errors := range map[string][]api.Errno{
		"Build":       {api.OK, api.ErrPattern, api.ErrShape, api.ErrArg},
		"Places":      {api.OK, api.ErrPattern},
		"Turn":        {api.OK, api.ErrPattern},
		"Union":       {api.OK, api.ErrPattern, api.ErrShape},
		"Inter":       {api.OK, api.ErrPattern, api.ErrShape},
		"Product":     {api.OK, api.ErrPattern, api.ErrShape},
		"Close":       {api.OK, api.ErrPattern, api.ErrShape},
		"Graph":       {api.OK, api.ErrPattern, api.ErrShape},
		"Permute":     {api.OK, api.ErrPattern, api.ErrOrder},
		"Components":  {api.OK, api.ErrPattern, api.ErrShape},
		"Blocks":      {api.OK, api.ErrPattern, api.ErrShape},
		"FromEntries": {api.OK, api.ErrPattern, api.ErrShape, api.ErrRat, api.ErrArg, api.ErrBig},
		"TurnMatrix":  {api.OK, api.ErrMatrix},
		"Plus":        {api.OK, api.ErrMatrix, api.ErrShape, api.ErrBig},
		"Times":       {api.OK, api.ErrMatrix, api.ErrShape, api.ErrBig},
		"Dense":       {api.OK, api.ErrMatrix},
		"Sparse":      {api.OK, api.ErrPattern, api.ErrShape, api.ErrRat},
		"Pad":         {api.OK, api.ErrMatrix, api.ErrPattern, api.ErrShape},
	} {
		for _, e := range errors {
			if met[name][e] < 20 {
				t.Errorf("%s: error %d was met %d times", name, e, met[name][e])
			}
		}
		if len(met[name]) != len(errors) {
			t.Errorf("%s: errors %v, want %v", name, met[name], errors)
		}
	}
}

// makeHuge puts numbers of MaxLimbs limbs at some places.
func (h *held) makeHuge(huge api.Rat) {
	for _, m := range []*api.Matrix{&h.m, &h.beside, &h.own} {
		m.Vals = slices.Clone(m.Vals)
		for i := range m.Vals {
			if i%3 != 1 {
				m.Vals[i] = huge
			}
		}
	}
	for i := range h.vals {
		if i%3 != 1 {
			h.vals[i] = huge
		}
	}
}

// P9.1: each way in which a pattern and a matrix may not be, in each argument, with each call's error.
func TestWrongThings(t *testing.T) {
	d := dice(2)
	good := func() held {
		h := held{p: pat(3, 3, "0,1 1,2"), next: pat(3, 3, "0,0"), list: []api.Pattern{pat(3, 3, ""), pat(3, 3, "1,1")}, m: mat(3, 3, "0,1=2"), beside: mat(3, 3, "1,1=3"), own: mat(3, 3, "1,2=1/2")}
		h.byRows, h.byCols = d.order(3), d.order(3)
		return h
	}
	check := func(what string, h held, e api.Errno, names ...string) {
		t.Helper()
		for _, c := range allCalls() {
			if !slices.Contains(names, c.name) {
				continue
			}
			if got := c.do(h); got.e != e || got.text() != c.want(h).text() {
				t.Errorf("%s, %s: %s", what, c.name, short(got.text()))
			}
		}
	}
	check("nothing wrong", good(), api.OK, "Places", "Turn", "Union", "Inter", "Product", "Close", "Graph", "Permute", "Components", "Blocks", "TurnMatrix", "Plus", "Times", "Dense", "Pad")
	for name, p := range wrongPatterns() {
		h := good()
		h.p = p
		check(name, h, api.ErrPattern, "Places", "Turn", "Product", "Close", "Graph", "Permute", "Components", "Blocks")
		check(name, h, api.OK, "May", "Has", "Count", "Symmetric")
		h.byRows, h.byCols, h.next = nil, nil, pat(1, 1, "")
		check(name+", and other faults", h, api.ErrPattern, "Product", "Permute")
		h = good()
		h.next = p
		check(name+", second", h, api.ErrPattern, "Product", "Pad")
		for at := range 3 {
			h.list = slices.Insert([]api.Pattern{pat(3, 3, ""), pat(2, 2, "")}, at, p)
			check(name+" in a list", h, api.ErrPattern, "Union", "Inter")
		}
	}
	for name, m := range wrongMatrices() {
		h := good()
		h.m = m
		check(name, h, api.ErrMatrix, "TurnMatrix", "Plus", "Times", "Dense", "Pad")
		check(name, h, api.OK, "MayMatrix", "Get", "Same")
		h.beside, h.own, h.next = mat(1, 1, ""), mat(1, 1, ""), api.Pattern{}
		check(name+", and other faults", h, api.ErrMatrix, "Plus", "Times", "Pad")
		h = good()
		h.beside, h.own = m, m
		check(name+", second", h, api.ErrMatrix, "Plus", "Times")
		check(name+", second", h, api.OK, "Same")
		h.m = mat(1, 1, "")
		check(name+", second, and a shape", h, api.ErrMatrix, "Plus", "Times")
		h.m = m
		check(name+", against itself", h, api.OK, "Same")
	}
}
