package colour_test

import (
	"fmt"
	"iter"
	"maps"
	"slices"

	"slope/api"
)

// dice throws numbers that are the same in every run.
type dice uint64

func (d *dice) next(n int) int {
	*d = *d*6364136223846793005 + 1442695040888963407
	return int(uint32(*d>>32)) % n
}

// pick is one of a list.
func pick[T any](d *dice, l ...T) T { return l[d.next(len(l))] }

// shuffled is an order of n things at random.
func (d *dice) shuffled(n int) []int {
	l := upTo(n)
	for i := range l {
		k := i + d.next(n-i)
		l[i], l[k] = l[k], l[i]
	}
	return l
}

// upTo is 0, 1, 2, .. of n numbers.
func upTo(n int) []int {
	var l []int
	for i := range n {
		l = append(l, i)
	}
	return l
}

// short is the beginning of a long message.
func short(s string) string {
	if len(s) > 500 {
		return s[:500] + fmt.Sprintf(".. (%d bytes)", len(s))
	}
	return s
}

// sheet tells of each row and column whether there is a place.
type sheet struct {
	rows, width int
	has         [][]bool
}

// where is the sheet of the places that f tells.
func where(rows, width int, f func(r, c int) bool) sheet {
	s := sheet{rows: rows, width: width}
	for r := range rows {
		s.has = append(s.has, make([]bool, width))
		for c := range width {
			s.has[r][c] = f(r, c)
		}
	}
	return s
}

// blank is a graph without edges.
func blank(n int) sheet { return where(n, n, func(_, _ int) bool { return false }) }

// joined is a graph of the edges that f tells, of vertices u below v.
func joined(n int, f func(u, v int) bool) sheet {
	s := blank(n)
	for v := range n {
		for u := range v {
			s.has[u][v] = f(u, v)
			s.has[v][u] = s.has[u][v]
		}
	}
	return s
}

// of is a graph of such edges, told one by one.
func of(n int, edges ...[2]int) sheet {
	return joined(n, func(u, v int) bool {
		return slices.Contains(edges, [2]int{u, v}) || slices.Contains(edges, [2]int{v, u})
	})
}

// path, circle, starOf, full: graphs of n vertices by their names.
func path(n int) sheet { return joined(n, func(u, v int) bool { return v == u+1 }) }
func circle(n int) sheet {
	return joined(n, func(u, v int) bool { return v == u+1 || v == u+n-1 })
}
func starOf(n int) sheet { return joined(n, func(u, _ int) bool { return u == 0 }) }
func full(n int) sheet   { return joined(n, func(_, _ int) bool { return true }) }

// pattern is a sheet's.
func (s sheet) pattern() api.Pattern {
	p := api.Pattern{Rows: s.rows, Width: s.width, Start: []int{0}}
	for r := range s.rows {
		for c := range s.width {
			if s.has[r][c] {
				p.Cols = append(p.Cols, c)
			}
		}
		p.Start = append(p.Start, len(p.Cols))
	}
	return p
}

// turned is the sheet with rows and columns exchanged.
func (s sheet) turned() sheet {
	return where(s.width, s.rows, func(r, c int) bool { return s.has[c][r] })
}

// things is how many a kind has there.
func (s sheet) things(kind api.ColourKind) int {
	if kind == api.ColourColumns {
		return s.width
	}
	return s.rows
}

// part is the sheet of some of a kind's things, with their places: thing i is this one's keep[i].
func (s sheet) part(kind api.ColourKind, keep []int) sheet {
	n := len(keep)
	switch kind {
	case api.ColourColumns:
		return where(s.rows, n, func(r, c int) bool { return s.has[r][keep[c]] })
	case api.ColourRows:
		return where(n, s.width, func(r, c int) bool { return s.has[keep[r]][c] })
	}
	return where(n, n, func(r, c int) bool { return s.has[keep[r]][keep[c]] })
}

// inOrder goes through sheets by their names, so that dice fall alike in every run.
func inOrder(z map[string]sheet) iter.Seq2[string, sheet] {
	return func(yield func(string, sheet) bool) {
		for _, name := range slices.Sorted(maps.Keys(z)) {
			if !yield(name, z[name]) {
				return
			}
		}
	}
}

// graphs are graphs of every sort of so many vertices, by names.
func (d *dice) graphs(n int) iter.Seq2[string, sheet] {
	with := func(f func(u, v int) bool) sheet { return joined(n, f) }
	odd := (n - 1) | 1 // the greatest odd number up to n
	above := make([]int, n)
	for v := 1; v < n; v++ {
		above[v] = d.next(v)
	}
	z := map[string]sheet{
		"no edges":         blank(n),
		"all edges":        full(n),
		"a path":           path(n),
		"a circle":         circle(n),
		"an odd circle":    with(func(u, v int) bool { return v < odd && (v == u+1 || v == u+odd-1) }),
		"a star about 0":   starOf(n),
		"a star about n-1": with(func(_, v int) bool { return v == n-1 }),
		"two sides":        with(func(u, v int) bool { return u < n/3 && v >= n/3 }),
		"three sides":      with(func(u, v int) bool { return u%3 != v%3 }),
		"pairs":            with(func(u, v int) bool { return u%2 == 0 && v == u+1 }),
		"triangles":        with(func(u, v int) bool { return u/3 == v/3 }),
		"circles of five":  with(func(u, v int) bool { return u/5 == v/5 && (v == u+1 || v == u+4) }),
		"a grid":           with(func(u, v int) bool { return v == u+8 || v == u+1 && v%8 > 0 }),
		"a strip":          with(func(u, v int) bool { return v-u <= 3 }),
		"a wheel":          with(func(u, v int) bool { return u == 0 || v == u+1 || u == 1 && v == n-1 }),
		"a core with tail": with(func(u, v int) bool { return v < n/2 || v == u+1 }),
		"thresholds":       with(func(u, v int) bool { return u+v < n }),
		"a tree":           with(func(u, v int) bool { return above[v] == u }),
		"one lonely":       with(func(u, v int) bool { return u != n/2 && v != n/2 }),
		"all but pairs":    with(func(u, v int) bool { return u%2 > 0 || v != u+1 }),
	}
	for _, per := range []int{1, 3, 10, 30, 60, 90} {
		z[fmt.Sprint("at random, ", per)] = with(func(_, _ int) bool { return d.next(100) < per })
	}
	for name, s := range z {
		if len(name)%3 == 0 && n > 0 {
			z[name] = s.part(api.ColourProper, (*dice).shuffled(new(dice(len(name))), n))
		}
	}
	return inOrder(z)
}

// patterns are patterns of every sort of so many rows and columns, by names.
func (d *dice) patterns(rows, width int) iter.Seq2[string, sheet] {
	with := func(f func(r, c int) bool) sheet { return where(rows, width, f) }
	z := map[string]sheet{
		"no places":     with(func(_, _ int) bool { return false }),
		"all places":    with(func(_, _ int) bool { return true }),
		"a diagonal":    with(func(r, c int) bool { return r == c }),
		"two diagonals": with(func(r, c int) bool { return r == c || c == r+1 }),
		"a band":        with(func(r, c int) bool { return r-2 <= c && c <= r+2 }),
		"an arrow":      with(func(r, c int) bool { return r == 0 || c == 0 || r == c }),
		"the last row":  with(func(r, _ int) bool { return r == rows-1 }),
		"first column":  with(func(_, c int) bool { return c == 0 }),
		"below":         with(func(r, c int) bool { return c <= r }),
		"blocks":        with(func(r, c int) bool { return r/3 == c/3 }),
		"a chequer":     with(func(r, c int) bool { return (r+c)%2 == 0 }),
		"every third":   with(func(r, c int) bool { return r%3 > 0 && c%3 > 0 }),
	}
	for _, per := range []int{1, 3, 10, 30, 60, 90} {
		z[fmt.Sprint("at random, ", per)] = with(func(_, _ int) bool { return d.next(100) < per })
	}
	return inOrder(z)
}

// sorts are what a kind is asked of: graphs, or patterns with as many things as there are sorts of shapes.
func (d *dice) sorts(kind api.ColourKind, n int) iter.Seq2[string, sheet] {
	if isOfGraphs(kind) {
		return d.graphs(n)
	}
	z := map[string]sheet{}
	others := []int{0, 1, n / 2, n, 2 * n}
	if n >= 64 {
		others = []int{1, n / 2, api.MaxSide}
	}
	for _, other := range others {
		for name, s := range d.patterns(other, n) {
			if kind == api.ColourRows {
				s = s.turned()
			}
			z[fmt.Sprint(name, ", other side ", other)] = s
		}
	}
	return inOrder(z)
}

// small is what a kind can be asked of, at random, with at most so many things.
func (d *dice) small(kind api.ColourKind, most int) sheet {
	n := d.next(most + 1)
	per := pick(d, 0, 5, 20, 30, 40, 60, 80, 95, 100)
	if !isOfGraphs(kind) {
		return where(d.next(most+1), n, func(_, _ int) bool { return d.next(100) < per })
	}
	return joined(n, func(_, _ int) bool { return d.next(100) < per })
}

// someColours are colours of n things at random, of at most so many names; these may leave some out, and go up to the greatest.
func (d *dice) someColours(n, most int) []int {
	names := make([]int, most)
	how := d.next(4)
	for i := range names {
		switch how {
		case 0:
			names[i] = d.next(api.MaxColour + 1)
		case 1:
			names[i] = pick(d, 0, 1, api.MaxColour-1, api.MaxColour)
		case 2:
			names[i] = most - 1 - i
		default:
			names[i] = i
		}
	}
	l := make([]int, n)
	for v := range l {
		l[v] = pick(d, names...)
	}
	return l
}

// allGraphs calls f with each graph of n vertices.
func allGraphs(n int, f func(s sheet)) {
	for bits := range 1 << (n * (n - 1) / 2) {
		k := bits
		f(joined(n, func(_, _ int) bool {
			yes := k&1 > 0
			k >>= 1
			return yes
		}))
	}
}

// allPatterns calls f with each pattern of so many rows and columns.
func allPatterns(rows, width int, f func(s sheet)) {
	for bits := range 1 << (rows * width) {
		f(where(rows, width, func(r, c int) bool { return bits>>(r*width+c)&1 > 0 }))
	}
}

// allOrders calls f with each order of n things.
func allOrders(n int, f func(l []int)) {
	var more func(l []int)
	more = func(l []int) {
		if len(l) == n {
			f(l)
			return
		}
		for v := range n {
			if !slices.Contains(l, v) {
				more(append(l[:len(l):len(l)], v))
			}
		}
	}
	more(nil)
}

// allColours calls f with each list of n colours below most; the list changes behind f.
func allColours(n, most int, f func(l []int)) {
	l := make([]int, n)
	var more func(i int)
	more = func(i int) {
		if i == n {
			f(l)
			return
		}
		for l[i] = 0; l[i] < most; l[i]++ {
			more(i + 1)
		}
	}
	more(0)
}

// allKinds are the five.
func allKinds() []api.ColourKind {
	return []api.ColourKind{api.ColourProper, api.ColourColumns, api.ColourRows, api.ColourStar, api.ColourAcyclic}
}

// graphKinds are the three of graphs.
func graphKinds() []api.ColourKind {
	return []api.ColourKind{api.ColourProper, api.ColourStar, api.ColourAcyclic}
}

// isOfGraphs tells whether a kind is one of them.
func isOfGraphs(kind api.ColourKind) bool { return slices.Contains(graphKinds(), kind) }
