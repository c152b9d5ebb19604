package regain_test

import (
	"fmt"
	"maps"
	"math"
	"slices"
	"testing"

	"slope/api"
)

// apart are the calls that take sums apart, summing those that add up.
func apart() []string   { return []string{"Columns", "Rows", "Star", "Acyclic"} }
func summing() []string { return []string{"Compress", "CompressRows"} }

// wrongPatterns are patterns in each way in which they may not be.
func wrongPatterns() map[string]api.Pattern {
	z := map[string]api.Pattern{}
	add := func(what string, spoil func(p *api.Pattern)) {
		p := joined(4, func(u, v int) bool { return v == u+1 }).pattern() // starts 0 1 3 5 6, columns 1, 0 2, 1 3, 2
		spoil(&p)
		z[what] = p
	}
	all := func(_, _ int) bool { return true }
	add("the zero value", func(p *api.Pattern) { *p = api.Pattern{} })
	add("rows below 0", func(p *api.Pattern) { p.Rows = -1 })
	add("columns below 0", func(p *api.Pattern) { *p = api.Pattern{Width: -1, Start: []int{0}} })
	add("the least rows", func(p *api.Pattern) { p.Rows, p.Width = math.MinInt, math.MinInt })
	add("the greatest rows", func(p *api.Pattern) { p.Rows, p.Width = math.MaxInt, math.MaxInt })
	add("the greatest columns", func(p *api.Pattern) { p.Width = math.MaxInt })
	add("129 vertices", func(p *api.Pattern) { *p = joined(129, all).pattern() })
	add("129 rows", func(p *api.Pattern) { *p = where(129, 1, all).pattern() })
	add("129 columns", func(p *api.Pattern) { *p = where(1, 129, all).pattern() })
	add("no starts", func(p *api.Pattern) { p.Start = nil })
	add("a start too few", func(p *api.Pattern) { p.Start = p.Start[:4] })
	add("a start too many", func(p *api.Pattern) { p.Start = append(p.Start, 6) })
	add("first start 1", func(p *api.Pattern) { p.Start[0] = 1 })
	add("first start below 0", func(p *api.Pattern) { p.Start[0] = -1 })
	add("starts that fall", func(p *api.Pattern) { p.Start[2] = 0 })
	add("a start beyond", func(p *api.Pattern) { p.Start[2] = math.MaxInt })
	add("last start less", func(p *api.Pattern) { p.Start[4] = 5 })
	add("last start more", func(p *api.Pattern) { p.Start[4] = 7 })
	add("no columns", func(p *api.Pattern) { p.Cols = nil })
	add("a column below 0", func(p *api.Pattern) { p.Cols[0] = -1 })
	add("a column too great", func(p *api.Pattern) { p.Cols[5] = 4 })
	add("a column twice", func(p *api.Pattern) { p.Cols[2] = 0 })
	add("columns that fall", func(p *api.Pattern) { p.Cols[1], p.Cols[2] = 2, 0 })
	return z
}

// wrongNumbers are numbers that may not be.
func wrongNumbers() []api.Rat {
	return []api.Rat{
		{}, {Num: api.Nat{1}}, {Num: api.Nat{2}, Den: api.Nat{4}}, {Neg: true, Den: api.Nat{1}}, {Den: api.Nat{2}}, {Num: api.Nat{1, 0}, Den: api.Nat{1}}, {Num: api.Nat{1}, Den: api.Nat{3, 0}}, {Num: append(make(api.Nat, api.MaxLimbs), 1), Den: api.Nat{1}},
	}
}

// wrongMatrices are matrices in each way in which they may not be.
func wrongMatrices() map[string]api.Matrix {
	z := map[string]api.Matrix{}
	for what, p := range wrongPatterns() {
		z["pattern: "+what] = api.Matrix{P: p, Vals: nums("1 2 3 4 5 6")}
		m := api.Matrix{P: p}
		for range p.Cols {
			m.Vals = append(m.Vals, num("1"))
		}
		z["pattern with as many numbers: "+what] = m
	}
	add := func(what string, spoil func(m *api.Matrix)) {
		m := band()
		spoil(&m)
		z[what] = m
	}
	add("no numbers", func(m *api.Matrix) { m.Vals = nil })
	add("a number too few", func(m *api.Matrix) { m.Vals = m.Vals[:4] })
	add("a number too many", func(m *api.Matrix) { m.Vals = append(m.Vals, num("0")) })
	add("numbers without places", func(m *api.Matrix) { m.P = mat(". . .").P })
	for i, r := range wrongNumbers() {
		for k := range 5 {
			add(fmt.Sprint("number ", i, " at ", k), func(m *api.Matrix) { m.Vals[k] = r })
		}
	}
	return z
}

// oddColours are colours of some things, and lists that are none.
func oddColours() [][]int {
	return [][]int{nil, {0}, {-1}, {0, 1}, {0, 1, 0}, {0, 1, 1}, {0, 0, 1}, {0, 0, 0}, {0, 1, 2}, {2, 7, 127}, {0, 1, 128}, {0, 1, 65536}, {65537, 1, 0}, {0, -1, 1}, {math.MinInt, 0, 1}, {0, 1, math.MaxInt}, {0, 1, 0, 1}, {0, 1, 2, 0}, {3, 2, 1, 0}, {0, 1, 2, 128}, make([]int, 5), upTo(128), upTo(129), make([]int, 129), make([]int, 70000)}
}

// oddSums are sums of several shapes, some with numbers that may not be.
func oddSums() [][][]api.Rat {
	bad := wrongNumbers()
	return [][][]api.Rat{nil, {nil}, {nil, nil, nil}, rows("0"), rows("1"), rows("0 0 0,0 0 0,0 0 0"), rows("1 2"), rows("1 2,4 3,5 0"), rows("1 5,2 4,3 5"), rows("1 2 5,0 3 4"), rows("1 2 3,4 5 6,7 8 9"), rows("1 2,4 3"), rows("1 2,4 3,5"), rows("1 2,4 3,5 0 0"), rows("1,4 3,5 0"), rows("1 2,4 3,5 0,1 1"), rows("0 1,3 0,0 5,3 0"), {bad[:1]}, {nums("1 2"), nums("4 3"), {num("5"), bad[2]}}, {nums("1 2"), {bad[3], num("3")}, nums("5 0")}, {nil, nil, nil, nil, nil, bad[1:2]}}
}

// P13.3 to P13.5: each pattern that may not be is ErrPattern, whatever stands beside it.
func TestPatternFaults(t *testing.T) {
	t.Parallel()
	for what, p := range wrongPatterns() {
		if _, may := plainRead(p); may {
			t.Fatalf("%s may be", what)
		}
		for _, colours := range oddColours() {
			for _, sums := range oddSums() {
				wantErrors(t, what, held{p: p, colours: colours, sums: sums}, api.ErrPattern, apart()...)
			}
		}
	}
}

// P13.2, P13.8: each matrix that may not be is ErrMatrix, whatever stands beside it.
func TestMatrixFaults(t *testing.T) {
	t.Parallel()
	for what, m := range wrongMatrices() {
		for _, colours := range oddColours() {
			wantErrors(t, what, held{m: m, colours: colours}, api.ErrMatrix, summing()...)
		}
		for _, x := range [][]api.Rat{nil, nums("1"), nums("1 2 3"), nums("1 2 3 4"), wrongNumbers(), wrongNumbers()[:3]} {
			wantErrors(t, what, held{m: m, x: x}, api.ErrMatrix, "Product")
		}
	}
}

// P13.3 to P13.5: a number that may not be, at each place of sums, is ErrRat, be the shape as it may, ahead of ErrSquare, ErrColours, ErrColouring and ErrShape; so is one in x, ahead of ErrShape.
func TestNumberFaults(t *testing.T) {
	t.Parallel()
	for _, bad := range wrongNumbers() {
		for _, p := range []api.Pattern{band().P, arrow().P, mat("").P, mat("1 2").P} {
			for _, colours := range oddColours() {
				for _, sums := range [][][]api.Rat{rows("1 2,4 3,5 0"), rows("1 2 5,0 3 4"), rows("1"), rows("1 2,3,4 5 6,7")} {
					for i := range sums {
						for c := range sums[i] {
							l := clone(sums)
							l[i][c] = bad
							wantErrors(t, "sums", held{p: p, colours: colours, sums: l}, api.ErrRat, apart()...)
						}
					}
				}
			}
		}
		for _, m := range []api.Matrix{band(), mat(""), mat("1 2,. .")} {
			for _, x := range [][]api.Rat{nums("1"), nums("1 2"), nums("1 2 3"), nums("1 2 3 4")} {
				for i := range x {
					l := slices.Clone(x)
					l[i] = bad
					wantErrors(t, "x", held{m: m, x: l}, api.ErrRat, "Product")
				}
			}
		}
	}
}

// P13.4, P13.5: patterns that are not symmetric are ErrSquare, be colours and sums as they may; Columns and Rows take them.
func TestSquareFaults(t *testing.T) {
	for what, s := range map[string]sheet{
		"more rows than columns": where(4, 3, func(_, _ int) bool { return false }),
		"more columns than rows": where(3, 4, func(r, c int) bool { return r == c }),
		"columns of no rows":     where(0, 1, nil),
		"rows of no columns":     where(1, 0, nil),
		"an entry one way":       where(3, 3, func(r, c int) bool { return r == 0 && c == 2 }),
		"an entry the other way": where(3, 3, func(r, c int) bool { return r == 2 && c == 0 }),
		"the first one missing":  where(3, 3, func(r, c int) bool { return r != 0 || c != 1 }),
		"128, the last missing":  where(128, 128, func(r, c int) bool { return r != 127 || c != 126 }),
	} {
		for _, colours := range oddColours() {
			for _, sums := range [][][]api.Rat{nil, rows("1"), rows("1 2,4 3,5 0"), rows("1 2 3,4 5 6,7 8 9")} {
				wantErrors(t, what, held{p: s.pattern(), colours: colours, sums: sums}, api.ErrSquare, "Star", "Acyclic")
			}
		}
		for _, kind := range kinds()[:2] {
			d := dice(1)
			wantBack(t, what, kind, d.matrix(kind, s), upTo(s.things(kind)))
		}
	}
}

// P13.1 to P13.5: colours too few, too many, below 0, above MaxColour, and more than MaxSide of them are ErrColours, also where they would be no colouring and where sums have another shape; at MaxSide they are not.
func TestColourFaults(t *testing.T) {
	for _, m := range []api.Matrix{band(), arrow(), mat("1 . .,. 2 .,. . 3")} {
		for _, l := range [][]int{nil, {0}, {0, 1}, {0, 0}, {0, 1, 2, 3}, {0, 0, 0, 0}, {0, 1, -1}, {-1, 1, 2}, {0, 0, -1}, {0, 1, 128}, {128, 1, 0}, {0, 0, 128}, {0, 1, 65536}, {0, 1, 65537}, {65537, 65537, 65537}, {math.MaxInt, math.MinInt, 0}, {0, 1, math.MaxInt}, {0, math.MinInt, 1}, make([]int, 70000)} {
			for _, sums := range [][][]api.Rat{nil, rows("1 2,4 3,5 0"), rows("1 2 3")} {
				h := held{p: m.P, m: m, colours: l, sums: sums}
				names := summing()
				if m.P.Rows == 3 && slices.Equal(m.P.Cols, arrow().P.Cols) || len(m.P.Cols) == 3 {
					names = append(names, apart()...)
				} else {
					names = append(names, "Columns", "Rows")
				}
				wantErrors(t, "three", h, api.ErrColours, names...)
			}
		}
		for _, l := range [][]int{{127, 0, 1}, {125, 126, 127}, {0, 127, 64}} {
			for _, name := range summing() {
				wantPlain(t, callOf(name), held{m: m, colours: l})
			}
			for _, kind := range kinds() {
				if !isOfGraphs(kind) || !slices.Equal(m.P.Cols, band().P.Cols) {
					wantBack(t, "three", kind, m, l)
				}
			}
		}
	}
	for _, l := range [][]int{{-1}, {0, -1}, {128}, {0, 128}, {65536}, {65537}, {math.MaxInt}, {math.MinInt}, make([]int, 129), make([]int, 70000), append(make([]int, 128), -1), upTo(129)} {
		wantErrors(t, "seed", held{colours: l}, api.ErrColours, "Seed")
	}
	for _, l := range [][]int{upTo(128), make([]int, 128), {127}, append(make([]int, 127), 127)} {
		if a := wantPlain(t, callOf("Seed"), held{colours: l}); a.e != api.OK {
			t.Errorf("Seed of %v: error %d", l, a.e)
		}
	}
}

// P13.2, P13.3: as many colours as columns where rows are asked, and the other way round.
func TestOtherSide(t *testing.T) {
	for _, x := range [][2]int{{2, 3}, {0, 1}, {1, 0}, {127, 128}, {128, 127}, {5, 128}} {
		s := where(x[0], x[1], func(r, c int) bool { return r == c })
		d := dice(2)
		m := d.matrix(api.ColourColumns, s)
		for i, kind := range []api.ColourKind{api.ColourRows, api.ColourColumns} {
			wantBack(t, fmt.Sprint(x), kind, m, upTo(x[i]))
			h := held{p: m.P, m: m, colours: upTo(x[1-i]), sums: sumsOf(t, kind, m, upTo(x[i]))}
			wantErrors(t, fmt.Sprint(x), h, api.ErrColours, nameOf(kind), sumName(kind))
		}
	}
}

// P13.3 to P13.5: colours that are none of the call's kind are ErrColouring, those of another kind among them, ahead of ErrShape; Compress takes them.
func TestColouringFaults(t *testing.T) {
	for _, x := range []struct {
		m, colours string
		bad        []string
		good       []string
	}{
		// two columns of one row; two rows of one column
		{"1 2 .,. 3 4,. . 5", "0 0 1", []string{"Columns", "Rows"}, nil},
		{"1 2 .,. . 4,. . .", "0 1 0", nil, []string{"Columns", "Rows"}},
		{"1 2,. .", "0 0", []string{"Columns"}, []string{"Rows"}},
		{"1 .,2 .", "0 0", []string{"Rows"}, []string{"Columns"}},
		// the arrow: of kind ColourStar, not for columns
		{"1 2 3,2 4 .,3 . 5", "0 1 1", []string{"Columns", "Rows"}, []string{"Star", "Acyclic"}},
		// neighbours of one colour
		{"1 2 3,2 4 .,3 . 5", "0 0 1", apart(), nil},
		{". 1,1 .", "0 0", []string{"Star", "Acyclic"}, []string{"Columns", "Rows"}},
		// a path of four in two colours: acyclic, no star
		{". 1 . .,1 . 2 .,. 2 . 3,. . 3 .", "0 1 0 1", []string{"Star", "Columns", "Rows"}, []string{"Acyclic"}},
		// a circle of four in two colours: proper, not acyclic; in three a star
		{". 1 . 4,1 . 2 .,. 2 . 3,4 . 3 .", "0 1 0 1", apart(), nil},
		{". 1 . 4,1 . 2 .,. 2 . 3,4 . 3 .", "0 1 0 2", []string{"Columns", "Rows"}, []string{"Star", "Acyclic"}},
	} {
		m := mat(x.m)
		for _, sums := range [][][]api.Rat{nil, rows("1"), ratZeros(m.P.Rows, 2), ratZeros(2, m.P.Width)} {
			h := held{p: m.P, m: m, colours: ints(x.colours), sums: sums}
			wantErrors(t, x.m, h, api.ErrColouring, x.bad...)
			for _, name := range append(summing(), "Seed") {
				if a := wantPlain(t, callOf(name), h); a.e != api.OK {
					t.Errorf("%s of %s: error %d", name, x.m, a.e)
				}
			}
		}
		for _, kind := range kinds() {
			if slices.Contains(x.good, nameOf(kind)) {
				wantBack(t, x.m, kind, m, ints(x.colours))
			}
		}
	}
}

// ratZeros is rows of zeros.
func ratZeros(height, width int) [][]api.Rat {
	l := make([][]api.Rat, height)
	for i := range l {
		for range width {
			l[i] = append(l[i], num("0"))
		}
	}
	return l
}

// P13.3 to P13.5, P13.8: sums with too few or too many rows, and each row with too few or too many numbers, are ErrShape; x of another length too.
func TestShapeFaults(t *testing.T) {
	d := dice(5)
	for _, kind := range kinds() {
		for _, n := range []int{1, 2, 3, 5, 8} {
			s := d.small(kind, n)
			colours := d.greedy(t, kind, s)
			m := d.matrix(kind, s)
			h := held{p: m.P, colours: colours}
			good := sumsOf(t, kind, m, colours)
			for _, bad := range misshapen(good) {
				h.sums = bad
				wantErrors(t, fmt.Sprint(n), h, api.ErrShape, nameOf(kind))
			}
			// The shape that the other call wants is none here, unless it is the same.
			if height, width := len(good), plainCount(colours); kind == api.ColourColumns && height != width {
				h.sums = ratZeros(width, height)
				wantErrors(t, "turned", h, api.ErrShape, nameOf(kind))
			}
		}
	}
	for _, m := range []api.Matrix{band(), mat(""), mat("1 .,. .,3 4"), mat(". .")} {
		for n := range 6 {
			h := held{m: m, x: ratZeros(1, n)[0]}
			if n != m.P.Width {
				wantErrors(t, "x", h, api.ErrShape, "Product")
			} else if a := wantPlain(t, callOf("Product"), h); a.e != api.OK {
				t.Errorf("Product: error %d", a.e)
			}
		}
	}
}

// misshapen are sums with a row less or more, and with each row a number shorter or longer.
func misshapen(good [][]api.Rat) [][][]api.Rat {
	z := [][][]api.Rat{append(clone(good), nil), append(clone(good), nums("0"))}
	if len(good) > 0 {
		z = append(z, good[1:], good[:len(good)-1], nil, append(clone(good), good[0]))
	}
	for i, row := range good {
		longer, shorter, none := clone(good), clone(good), clone(good)
		longer[i] = append(slices.Clone(row), num("0"))
		z = append(z, longer)
		if len(row) > 0 {
			shorter[i], none[i] = row[:len(row)-1], nil
			z = append(z, shorter, none)
		}
	}
	return z
}

// DOC.md's P4: all faults side by side, in the chapter's order.
func TestFaultsAtOnce(t *testing.T) {
	t.Parallel()
	met := map[string]int{}
	var patterns []api.Pattern
	for _, what := range slices.Sorted(maps.Keys(wrongPatterns())) {
		if p := wrongPatterns()[what]; len(p.Cols) < 100 {
			patterns = append(patterns, p)
		}
	}
	var matrices []api.Matrix
	for _, s := range []string{"", "1", ".", "1 2", "1,2", "1 2 .,. 3 4,. . 5", "1 2 3,2 4 .,3 . 5", "1 2 3,2 4 6,3 6 5", ". 1 . .,1 . 2 .,. 2 . 3,. . 3 .", ". 1 . 4,1 . 2 .,. 2 . 3,4 . 3 .", "1 . .,. . .,. . 1"} {
		patterns, matrices = append(patterns, mat(s).P), append(matrices, mat(s))
	}
	for _, colours := range oddColours() {
		for _, p := range patterns {
			for _, sums := range oddSums() {
				for _, name := range apart() {
					a := wantPlain(t, callOf(name), held{p: p, colours: colours, sums: sums})
					met[fmt.Sprint(name, a.e)]++
					if a.e != api.OK && !a.isNothing() {
						t.Errorf("%s: %s", name, short(a.text()))
					}
				}
			}
		}
		for _, m := range matrices {
			for _, name := range append(summing(), "Seed") {
				met[fmt.Sprint(name, wantPlain(t, callOf(name), held{m: m, colours: colours}).e)]++
			}
		}
	}
	looks := []api.Errno{api.OK, api.ErrPattern, api.ErrRat, api.ErrColours, api.ErrColouring, api.ErrShape, api.ErrSum}
	for name, errors := range map[string][]api.Errno{"Columns": looks, "Rows": looks, "Star": append(looks, api.ErrSquare), "Acyclic": append(looks, api.ErrSquare), "Compress": {api.OK, api.ErrColours}, "CompressRows": {api.OK, api.ErrColours}, "Seed": {api.OK, api.ErrColours}} {
		for _, e := range errors {
			if met[fmt.Sprint(name, e)] < 4 {
				t.Errorf("%s: error %d was met %d times", name, e, met[fmt.Sprint(name, e)])
			}
		}
	}
}

// DOC.md's P1: no call panics, whatever it is given.
func TestNoPanic(t *testing.T) {
	t.Parallel()
	d := dice(14)
	met := map[string]int{}
	for range 6000 {
		h := d.spoilt()
		for _, c := range allCalls() {
			met[fmt.Sprint(c.name, wantPlain(t, c, h).e)]++
		}
	}
	for name, errors := range map[string][]api.Errno{"Seed": {api.OK, api.ErrColours}, "Compress": {api.OK, api.ErrMatrix, api.ErrColours}, "CompressRows": {api.OK, api.ErrMatrix, api.ErrColours}, "Columns": {api.OK, api.ErrPattern, api.ErrRat, api.ErrColours}, "Rows": {api.OK, api.ErrPattern, api.ErrRat, api.ErrColours}, "Star": {api.OK, api.ErrPattern, api.ErrRat, api.ErrSquare, api.ErrColours}, "Acyclic": {api.OK, api.ErrPattern, api.ErrRat, api.ErrSquare, api.ErrColours}, "Product": {api.OK, api.ErrMatrix, api.ErrRat, api.ErrShape}} {
		for _, e := range errors {
			if met[fmt.Sprint(name, e)] < 50 {
				t.Errorf("%s: error %d was met %d times", name, e, met[fmt.Sprint(name, e)])
			}
		}
	}
}

// spoilt is what calls could be given, with odd numbers here and there; some is good.
func (d *dice) spoilt() held {
	kind := pick(d, kinds()...)
	s := d.small(kind, 5)
	h := held{p: s.pattern(), m: d.matrix(kind, s)}
	for range s.things(kind) {
		h.colours = append(h.colours, d.next(pick(d, 2, 5, 9)))
	}
	t, _ := plainMatrix(h.m)
	l, _ := plainCompress(kind, t, h.colours)
	h.sums = ratRows(l)
	for range s.width {
		h.x = append(h.x, d.number())
	}
	for range d.next(3) {
		d.spoil(&h)
	}
	return h
}

// spoil changes one thing.
func (d *dice) spoil(h *held) {
	n := pick(d, math.MinInt, -129, -1, 0, 1, 2, 3, 4, 127, 128, 129, 65536, 65537, 1<<32, math.MaxInt, len(h.p.Cols))
	r := pick(d, append(wrongNumbers(), nums("0 1 -2/3")...)...)
	switch d.next(11) {
	case 0:
		h.p.Rows = n
	case 1:
		h.m.P.Width = n
	case 2:
		h.p.Rows, h.p.Width = n, n
	case 3:
		put(d, h.p.Start, n)
		put(d, h.m.P.Cols, n)
	case 4:
		put(d, h.p.Cols, n)
	case 5:
		put(d, h.colours, n)
	case 6:
		h.colours = append(h.colours, n)
	case 7:
		put(d, h.m.Vals, r)
		put(d, h.x, r)
	case 8:
		h.x = append(h.x, r)
	case 9:
		h.sums = append(h.sums, []api.Rat{r})
	default:
		if len(h.sums) > 0 {
			put(d, pick(d, h.sums...), r)
		}
	}
}

// put puts a thing somewhere in a list, if it has a place.
func put[T any](d *dice, l []T, x T) {
	if len(l) > 0 {
		l[d.next(len(l))] = x
	}
}
