package regain_test

import (
	"fmt"
	"slices"
	"strings"
	"testing"

	"slope/api"
	"slope/regain"
)

// P13.2, P13.8: numbers to be added up, at MaxLimbs limbs and just above it: ErrBig, if a sum on the way is that large, be they the entries of a row or of a column.
func TestLargeSums(t *testing.T) {
	top, half, one := twoTo(65536, -1), twoTo(65535, 0), num("1")
	low := under(twoTo(65535, 1)) // odd below
	for what, x := range map[string]struct {
		l []api.Rat
		e api.Errno
	}{
		"the greatest":                     {[]api.Rat{top}, api.OK},
		"the greatest and 0":               {[]api.Rat{top, num("0")}, api.OK},
		"just above":                       {[]api.Rat{top, one}, api.ErrBig},
		"just below":                       {[]api.Rat{minus(top), minus(one)}, api.ErrBig},
		"up to the edge":                   {[]api.Rat{twoTo(65536, -2), one}, api.OK},
		"halves":                           {[]api.Rat{half, half}, api.ErrBig},
		"above on the way":                 {[]api.Rat{top, one, minus(one)}, api.ErrBig},
		"the same in another order":        {[]api.Rat{minus(one), top, one}, api.OK},
		"above on the way, the whole 0":    {[]api.Rat{half, half, minus(half), minus(half)}, api.ErrBig},
		"the same, one by one":             {[]api.Rat{half, minus(half), half, minus(half)}, api.OK},
		"a Den at the edge":                {[]api.Rat{under(top), one}, api.ErrBig},
		"a Den at the edge, twice":         {[]api.Rat{under(top), under(top)}, api.OK},
		"Dens that go together on the way": {[]api.Rat{low, num("1/2"), minus(low)}, api.ErrBig},
		"Dens that are gone in time":       {[]api.Rat{low, minus(low), num("1/2")}, api.OK},
	} {
		n := len(x.l)
		// The row among others; column n + 1 has another colour.
		wide := where(3, n+2, func(r, c int) bool { return r == 1 && c > 0 || r == 2 })
		m := api.Matrix{P: wide.pattern(), Vals: append(append(slices.Clone(x.l), num("5")), nums(strings.Repeat("1 ", n+2))...)}
		h := held{m: m, colours: append(make([]int, n+1), 1), x: append(nums(strings.Repeat("1 ", n+1)), num("0"))}
		for _, name := range []string{"Compress", "Product"} {
			if a := wantPlain(t, callOf(name), h); a.e != x.e {
				t.Errorf("%s: %s: error %d", what, name, a.e)
			}
		}
		tall := wide.turned()
		m = api.Matrix{P: tall.pattern()}
		for r := range n + 2 {
			if r > 0 {
				m.Vals = append(m.Vals, append(slices.Clone(x.l), num("5"))[r-1])
			}
			m.Vals = append(m.Vals, one)
		}
		if a := wantPlain(t, callOf("CompressRows"), held{m: m, colours: h.colours}); a.e != x.e {
			t.Errorf("%s: CompressRows: error %d", what, a.e)
		}
	}
}

// P13.8: ErrBig, if a product is that large, also where another one takes it away.
func TestLargeProducts(t *testing.T) {
	half, quarter := twoTo(65535, 0), twoTo(65534, 0)
	for _, x := range []struct {
		m, x []api.Rat
		e    api.Errno
	}{
		{[]api.Rat{half}, nums("2"), api.ErrBig},
		{[]api.Rat{quarter}, nums("2"), api.OK},
		{[]api.Rat{half}, nums("1/2"), api.OK},
		{[]api.Rat{half, half}, nums("2 -2"), api.ErrBig},
		{[]api.Rat{quarter, quarter}, nums("2 -2"), api.OK},
		{[]api.Rat{quarter, quarter}, nums("2 2"), api.ErrBig},
		{[]api.Rat{half, num("0")}, nums("0 2"), api.OK},
		{[]api.Rat{half}, []api.Rat{under(half)}, api.OK},
		{[]api.Rat{under(half)}, nums("1/3"), api.ErrBig},
		{[]api.Rat{twoTo(65536, -1)}, nums("1"), api.OK},
	} {
		m := api.Matrix{P: where(2, len(x.m), func(r, _ int) bool { return r == 1 }).pattern(), Vals: x.m}
		if a := wantPlain(t, callOf("Product"), held{m: m, x: x.x}); a.e != x.e {
			t.Errorf("%s by %s: error %d", short(showRow(x.m)), short(showRow(x.x)), a.e)
		}
	}
}

// P13.3: entries at MaxLimbs come back, for each stands alone in its sum.
func TestLargeEntries(t *testing.T) {
	top := twoTo(65536, -1)
	for _, kind := range kinds() {
		for _, s := range []sheet{where(3, 3, func(r, c int) bool { return r == c }), joined(3, func(_, _ int) bool { return true })} {
			m := api.Matrix{P: s.pattern()}
			for i := range m.P.Cols {
				m.Vals = append(m.Vals, []api.Rat{top, minus(top), under(top)}[i%3])
			}
			if len(m.Vals) == 9 && isOfGraphs(kind) {
				copy(m.Vals, []api.Rat{top, minus(top), under(top), minus(top), top, top, under(top), top, top})
			}
			wantBack(t, "large", kind, m, upTo(3))
		}
	}
}

// star is the star about vertex 0 with so many others, without a diagonal, and two colours: 0 for its middle, 1 for the others.
func star(others int) (api.Pattern, []int) {
	p := joined(others+1, func(u, v int) bool { return u == 0 && v > 0 }).pattern()
	colours := slices.Repeat([]int{1}, others+1)
	colours[0] = 0
	return p, colours
}

// starSums are sums of it: the middle's, and those of the others, which are its entries.
func starSums(middle api.Rat, entries ...api.Rat) [][]api.Rat {
	l := [][]api.Rat{{num("0"), middle}}
	for _, r := range entries {
		l = append(l, []api.Rat{r, num("0")})
	}
	return l
}

// P13.6: of Star: ErrBig, where the entries that were found add up to too much, whatever the sum is said to be, ahead of ErrSum of another place; but ErrSum of unlike entries of an edge comes first.
func TestLargeStar(t *testing.T) {
	top, one := twoTo(65536, -1), num("1")
	p, colours := star(3)
	for _, x := range []struct {
		middle  api.Rat
		entries []api.Rat
		e       api.Errno
	}{
		{num("3"), nums("1 1 1"), api.OK},
		{top, []api.Rat{minus(one), top, one}, api.OK},
		{num("0"), []api.Rat{minus(one), top, one}, api.ErrSum},
		{top, []api.Rat{top, one, minus(one)}, api.ErrBig},
		{num("0"), []api.Rat{top, one, minus(one)}, api.ErrBig},
		{top, []api.Rat{top, num("0"), num("0")}, api.OK},
	} {
		h := held{p: p, colours: colours, sums: starSums(x.middle, x.entries...)}
		if a := wantPlain(t, callOf("Star"), h); a.e != x.e {
			t.Errorf("Star: %s, want %d", short(a.text()), x.e)
		}
	}
	// A place that is another stands ahead of the row that gets too large.
	h := held{p: p, colours: colours, sums: starSums(top, top, one, minus(one))}
	h.sums[0][0] = one
	wantErrors(t, "another place", h, api.ErrBig, "Star")
	// The star with an edge beside it, whose two entries are each read by themselves.
	q := joined(6, func(u, v int) bool { return u == 0 && v > 0 && v < 4 || u == 4 && v == 5 }).pattern()
	h = held{p: q, colours: []int{0, 1, 1, 1, 0, 1}, sums: append(starSums(top, top, one, minus(one)), nums("0 2"), nums("2 0"))}
	wantErrors(t, "an edge beside it", h, api.ErrBig, "Star")
	h.sums[5][0] = num("3")
	wantErrors(t, "an edge whose entries are unlike", h, api.ErrSum, "Star")
	wantPlain(t, callOf("Star"), h)
}

// P13.5, P13.6: of Acyclic: ErrBig, where something on the way to an entry is too large, by the chapter's order of vertices and neighbours; then where the entries add up to too much; then ErrSum.
func TestLargeAcyclic(t *testing.T) {
	top, one, none := twoTo(65536, -1), num("1"), num("0")
	p, colours := star(3)
	for _, x := range []struct {
		middle  api.Rat
		entries []api.Rat
		e       api.Errno
	}{
		// The middle is the lowest vertex: it tells the last of its entries, by what is left.
		{num("3"), nums("1 1 1"), api.OK},
		{num("3"), nums("1 1 7"), api.ErrSum},
		{top, []api.Rat{one, minus(one), top}, api.OK},
		{top, []api.Rat{minus(one), one, top}, api.ErrBig},
		{minus(top), []api.Rat{one, minus(one), minus(top)}, api.ErrBig},
		{minus(top), []api.Rat{minus(one), one, minus(top)}, api.OK},
		{top, []api.Rat{minus(one), none, none}, api.ErrBig},
		// Nothing is too large on the way there, but on the way back.
		{top, []api.Rat{top, one, minus(one)}, api.ErrBig},
		{none, []api.Rat{top, none, none}, api.ErrSum},
	} {
		h := held{p: p, colours: colours, sums: starSums(x.middle, x.entries...)}
		if a := wantPlain(t, callOf("Acyclic"), h); a.e != x.e {
			t.Errorf("Acyclic: %s, %s: %s, want %d", short(showRow([]api.Rat{x.middle})), short(showRow(x.entries)), short(a.text()), x.e)
		}
	}
	// A path: vertex 0 tells (0, 1); then vertex 1, which is lower than vertex 2, tells (1, 2) by its sum less that.
	path := joined(3, func(u, v int) bool { return v == u+1 }).pattern()
	h := held{p: path, colours: []int{0, 1, 0}, sums: [][]api.Rat{{none, minus(one)}, {top, none}, {none, one}}}
	wantErrors(t, "a path", h, api.ErrBig, "Acyclic")
	// Were vertex 2 asked first, this one would be too large.
	h.sums = [][]api.Rat{{none, one}, {top, none}, {none, minus(one)}}
	wantErrors(t, "a path", h, api.ErrSum, "Acyclic")
	wantPlain(t, callOf("Acyclic"), h)
}

// P13.2 to P13.8: all calls against plain ones with numbers at the edge of MaxLimbs, whose sums now fit and now don't.
func TestLargeAtRandom(t *testing.T) {
	t.Parallel()
	top, half := twoTo(65536, -1), twoTo(65535, 0)
	edges := append(nums("0 0 1 -1 1/2"), top, minus(top), half, minus(half), minus(twoTo(65535, -1)))
	for _, kind := range kinds() {
		t.Run(nameOf(kind), func(t *testing.T) {
			t.Parallel()
			d := dice(41)
			met := map[string]int{}
			for i := range 150 {
				s := d.small(kind, pick(&d, 3, 5))
				h := held{p: s.pattern(), m: d.matrix(kind, s), colours: d.greedy(t, kind, s)}
				for k := range h.m.Vals {
					h.m.Vals[k] = pick(&d, edges...)
				}
				for range s.width {
					h.x = append(h.x, num(pick(&d, "0", "1", "-1", "2")))
				}
				table, _ := plainMatrix(h.m)
				for r := range s.rows {
					for c := range min(r, s.width) {
						if isOfGraphs(kind) {
							table.at[r][c] = table.at[c][r]
						}
					}
				}
				h.m = table.matrix()
				sums, e := plainCompress(kind, table, h.colours)
				h.sums = ratRows(sums)
				if e != api.OK || i%3 == 0 {
					h.sums = d.edgeSums(kind, s, h.colours, edges)
				}
				for _, c := range []string{sumName(kind), nameOf(kind), "Product"} {
					met[fmt.Sprint(c, wantPlain(t, callOf(c), h).e)]++
				}
			}
			wanted := []string{sumName(kind) + "0", nameOf(kind) + "0", nameOf(kind) + "261", "Product0", "Product2"}
			if isOfGraphs(kind) {
				wanted = append(wanted, sumName(kind)+"2", nameOf(kind)+"2")
			} else if n := met[nameOf(kind)+"2"]; n > 0 {
				t.Errorf("%s: ErrBig was met %d times", nameOf(kind), n)
			}
			for _, w := range wanted {
				if met[w] < 2 {
					t.Errorf("%s was met %d times: %v", w, met[w], met)
				}
			}
		})
	}
}

// edgeSums are sums of the shape that a kind wants, of such numbers where an entry is, mostly 0 elsewhere.
func (d *dice) edgeSums(kind api.ColourKind, s sheet, colours []int, edges []api.Rat) [][]api.Rat {
	l := ratZeros(s.rows, plainCount(colours))
	if kind == api.ColourRows {
		l = ratZeros(plainCount(colours), s.width)
	}
	for r := range s.rows {
		for c := range s.width {
			switch {
			case !s.has[r][c]:
			case kind == api.ColourRows:
				l[colours[r]][c] = pick(d, edges...)
			default:
				l[r][colours[c]] = pick(d, edges...)
			}
		}
	}
	if len(l) > 0 && d.next(3) == 0 {
		put(d, pick(d, l...), pick(d, edges...))
	}
	return l
}

// P13.2 to P13.8: patterns and graphs of every sort with MaxSide things, and with one less: there and back, with K up to MaxSide, and all calls against plain ones, with a place of the sums changed too.
func TestLargest(t *testing.T) {
	t.Parallel()
	for _, n := range []int{api.MaxSide - 1, api.MaxSide} {
		for _, kind := range kinds() {
			t.Run(fmt.Sprint(n, " ", nameOf(kind)), func(t *testing.T) {
				t.Parallel()
				d := dice(51)
				for name, s := range d.sorts(kind, n) {
					m := d.matrix(kind, s)
					greedy := d.greedy(t, kind, s)
					wantBack(t, name, kind, m, greedy)
					wantBack(t, name, kind, m, d.shuffled(n))
					colours := d.renamed(d.split(greedy))
					h := held{p: m.P, m: m, colours: colours, sums: sumsOf(t, kind, m, colours)}
					wantBack(t, name, kind, m, colours)
					if d.next(3) == 0 {
						wantPlain(t, callOf(sumName(kind)), h)
						row := pick(&d, h.sums...)
						put(&d, row, num("7/11"))
						wantPlain(t, callOf(nameOf(kind)), h)
					}
				}
			})
		}
	}
}

// P13.1, P13.8: a seed and a product of MaxSide.
func TestLargestSeed(t *testing.T) {
	d := dice(52)
	for _, colours := range [][]int{upTo(128), d.shuffled(128), slices.Repeat([]int{127}, 128)} {
		wantPlain(t, callOf("Seed"), held{colours: colours})
	}
	s := where(128, 128, func(_, _ int) bool { return true })
	h := held{m: d.matrix(api.ColourColumns, s), colours: d.shuffled(128)}
	for range 128 {
		h.x = append(h.x, d.number())
	}
	for _, name := range []string{"Product", "Compress", "CompressRows"} {
		if a := wantPlain(t, callOf(name), h); a.e != api.OK {
			t.Errorf("%s: error %d", name, a.e)
		}
	}
	// A path of MaxSide in two colours: one entry after the other, each by the one ahead of it.
	path := joined(128, func(u, v int) bool { return v <= u+1 })
	m := d.matrix(api.ColourAcyclic, path)
	two := make([]int, 128)
	for v := range two {
		two[v] = v % 2
	}
	sums, e := regain.Compress(m, two)
	if e != api.OK {
		t.Fatal(e)
	}
	found, e := regain.Acyclic(m.P, two, sums)
	wantMatrix(t, "a path", found, e, m)
	sums[127][0] = d.other(sums[127][0])
	wantErrors(t, "a path", held{p: m.P, colours: two, sums: sums}, api.ErrSum, "Acyclic")
}
