package colour_test

import (
	"fmt"
	"slices"
	"testing"

	"slope/api"
	"slope/colour"
)

// plainRead reads a pattern as chapter 9 tells it: the sheet, and whether it may be.
func plainRead(p api.Pattern) (sheet, bool) {
	if p.Rows < 0 || p.Rows > 128 || p.Width < 0 || p.Width > 128 || len(p.Start) != p.Rows+1 || p.Start[0] != 0 {
		return sheet{}, false
	}
	for r := range p.Rows {
		if p.Start[r] > p.Start[r+1] || p.Start[r+1] > len(p.Cols) {
			return sheet{}, false
		}
	}
	if p.Start[p.Rows] != len(p.Cols) {
		return sheet{}, false
	}
	s := where(p.Rows, p.Width, func(_, _ int) bool { return false })
	for r := range p.Rows {
		last := -1
		for k := p.Start[r]; k < p.Start[r+1]; k++ {
			c := p.Cols[k]
			if c <= last || c >= p.Width {
				return sheet{}, false
			}
			s.has[r][c], last = true, c
		}
	}
	return s, true
}

// isGraph tells whether a sheet is one.
func (s sheet) isGraph() bool {
	if s.rows != s.width {
		return false
	}
	for u := range s.rows {
		for v := range s.rows {
			if s.has[u][v] != s.has[v][u] || u == v && s.has[u][v] {
				return false
			}
		}
	}
	return true
}

// meeting is the graph of the columns: each two are looked at in each row.
func (s sheet) meeting() sheet {
	return joined(s.width, func(u, v int) bool {
		for r := range s.rows {
			if s.has[r][u] && s.has[r][v] {
				return true
			}
		}
		return false
	})
}

// near is the graph of Near: each two are looked at with each third.
func (s sheet) near() sheet {
	return joined(s.rows, func(u, v int) bool {
		for w := range s.rows {
			if s.has[u][v] || s.has[u][w] && s.has[w][v] {
				return true
			}
		}
		return false
	})
}

// graphOf is the graph of a kind's things, in which neighbours must differ.
func (s sheet) graphOf(kind api.ColourKind) sheet {
	switch kind {
	case api.ColourColumns:
		return s.meeting()
	case api.ColourRows:
		return s.turned().meeting()
	}
	return s
}

// distinct is how many unlike colours some things have.
func distinct(colours []int, things ...int) int {
	n := 0
	for i, v := range things {
		first := true
		for _, u := range things[:i] {
			first = first && colours[u] != colours[v]
		}
		if first {
			n++
		}
	}
	return n
}

// plainFault looks at every pair, with every row or column; then at every four vertices, or at every two colours.
func plainFault(kind api.ColourKind, s sheet, colours []int) []int {
	if kind == api.ColourRows {
		return plainFault(api.ColourColumns, s.turned(), colours)
	}
	n := s.things(kind)
	for u := range n {
		for v := u + 1; v < n; v++ {
			for r := range s.rows {
				if kind == api.ColourColumns && s.has[r][u] && s.has[r][v] && colours[u] == colours[v] {
					return []int{u, v, r}
				}
			}
			if kind != api.ColourColumns && s.has[u][v] && colours[u] == colours[v] {
				return []int{u, v}
			}
		}
	}
	switch kind {
	case api.ColourStar:
		return plainFour(s, colours)
	case api.ColourAcyclic:
		return plainTwo(s, colours)
	}
	return nil
}

// plainFour is the least four vertices, the first below the last, that are neighbours one after the other and have two colours.
func plainFour(s sheet, colours []int) []int {
	n := s.rows
	for a := range n {
		for b := range n {
			for c := range n {
				if !s.has[a][b] || !s.has[b][c] || a == c || distinct(colours, a, b, c) != 2 {
					continue
				}
				for d := a + 1; d < n; d++ {
					if s.has[c][d] && d != b && distinct(colours, a, b, c, d) == 2 {
						return []int{a, b, c, d}
					}
				}
			}
		}
	}
	return nil
}

// plainTwo is the least two colours whose vertices have a circle: vertices with fewer than two neighbours are taken away until there are none.
func plainTwo(s sheet, colours []int) []int {
	names := slices.Compact(slices.Sorted(slices.Values(colours)))
	for i, c := range names {
		for _, d := range names[i+1:] {
			in := map[int]int{}
			for v, k := range colours {
				if k == c || k == d {
					in[v] = 1
				}
			}
			if hasCircle(s, in) {
				return []int{c, d}
			}
		}
	}
	return nil
}

// hasCircle tells whether there is one among these vertices.
func hasCircle(s sheet, in map[int]int) bool {
	for again := true; again; {
		again = false
		for v := range in {
			n := 0
			for u := range in {
				if s.has[v][u] {
					n++
				}
			}
			if n < 2 {
				delete(in, v)
				again = true
			}
		}
	}
	return len(in) > 0
}

// byCircles is the least two colours of a circle: every circle is gone through, from its lowest vertex on.
func byCircles(s sheet, colours []int) []int {
	var least []int
	var more func(way []int)
	more = func(way []int) {
		first, last := way[0], way[len(way)-1]
		if len(way) > 2 && s.has[last][first] && distinct(colours, way...) == 2 {
			l := []int{colours[way[0]], colours[way[1]]}
			slices.Sort(l)
			if least == nil || slices.Compare(l, least) < 0 {
				least = l
			}
		}
		for v := first + 1; v < s.rows; v++ {
			if s.has[last][v] && !slices.Contains(way, v) {
				more(append(way[:len(way):len(way)], v))
			}
		}
	}
	for v := range s.rows {
		more([]int{v})
	}
	return least
}

// isOf tells whether colours are of a kind.
type isOf func(kind api.ColourKind, s sheet, colours []int) bool

// plainly is by the plain ones, byCheck by the program's Check.
func plainly(kind api.ColourKind, s sheet, colours []int) bool {
	return len(plainFault(kind, s, colours)) == 0
}

func byCheck(kind api.ColourKind, s sheet, colours []int) bool {
	return colour.Check(kind, s.pattern(), colours) == api.OK
}

// plainGreedy tries colour after colour on the things that have one.
func plainGreedy(kind api.ColourKind, s sheet, list []int, is isOf) []int {
	z := make([]int, len(list))
	var put []int
	for i, v := range list {
		part := s.part(kind, list[:i+1])
		k := 0
		for !is(kind, part, append(put[:i:i], k)) {
			k++
		}
		put = append(put, k)
		z[v] = k
	}
	return z
}

// plainNumber is 1 more than the greatest.
func plainNumber(colours []int) int {
	n := 0
	for _, k := range colours {
		n = max(n, k+1)
	}
	return n
}

// plainBound looks for each thing at all that stand ahead of it, two by two.
func plainBound(kind api.ColourKind, s sheet, list []int) int {
	g := s.graphOf(kind)
	most := 0
	for i, v := range list {
		count := 1
		for _, u := range list[:i] {
			near := g.has[u][v]
			for _, w := range list[:i] {
				if kind == api.ColourStar || kind == api.ColourAcyclic {
					near = near || g.has[u][w] && g.has[w][v]
				}
			}
			if near {
				count++
			}
		}
		most = max(most, count)
	}
	return most
}

// plainFloor counts places.
func plainFloor(kind api.ColourKind, s sheet) int {
	if s.things(kind) == 0 {
		return 0
	}
	most := 1
	for a := range s.rows {
		inRow, any := 0, false
		for b := range s.width {
			if s.has[a][b] {
				inRow++
				any = true
			}
		}
		switch {
		case kind == api.ColourColumns:
			most = max(most, inRow)
		case kind != api.ColourRows && any:
			most = 2
		}
	}
	for c := range s.width {
		inColumn := 0
		for r := range s.rows {
			if s.has[r][c] {
				inColumn++
			}
		}
		if kind == api.ColourRows {
			most = max(most, inColumn)
		}
	}
	return most
}

// plainLeast goes through all colourings, with each thing's colour at most 1 more than the greatest ahead of it.
func plainLeast(kind api.ColourKind, s sheet) int {
	n := s.things(kind)
	least := n
	var more func(l []int)
	more = func(l []int) {
		if plainNumber(l) >= least {
			return
		}
		if len(l) == n {
			if plainly(kind, s, l) {
				least = plainNumber(l)
			}
			return
		}
		for k := range plainNumber(l) + 1 {
			more(append(l[:len(l):len(l)], k))
		}
	}
	more(nil)
	return least
}

// held is what calls are given; no call takes all of it.
type held struct {
	kind    api.ColourKind
	p       api.Pattern
	list    []int // an order
	colours []int
}

// answer is what a call tells.
type answer struct {
	p     api.Pattern
	list  []int
	lists [][]int
	n     int
	e     api.Errno
}

func (a answer) text() string {
	s := fmt.Sprint(a.p.Rows, a.p.Width, append([]int{}, a.p.Start...), append([]int{}, a.p.Cols...), append([]int{}, a.list...), a.n, " error ", int(a.e), " lists ", len(a.lists))
	for i, l := range a.lists {
		if len(l) > 0 {
			s += fmt.Sprint(" ", i, ": ", l)
		}
	}
	return s
}

// same tells whether two answers are alike.
func (a answer) same(b answer) bool {
	return a.e == b.e && a.n == b.n && slices.Equal(a.list, b.list) && slices.EqualFunc(a.lists, b.lists, slices.Equal) && a.p.Rows == b.p.Rows && a.p.Width == b.p.Width && slices.Equal(a.p.Start, b.p.Start) && slices.Equal(a.p.Cols, b.p.Cols)
}

// call is one of the face, and what it should tell.
type call struct {
	name string
	do   func(h held) answer
	want func(h held) answer
}

func allCalls() []call {
	graph := func(f func(api.Pattern) (api.Pattern, api.Errno)) func(h held) answer {
		return func(h held) answer {
			p, e := f(h.p)
			return answer{p: p, e: e}
		}
	}
	return []call{
		{"Columns", graph(colour.Columns), wantColumns},
		{"Rows", graph(colour.Rows), wantRows},
		{"Near", graph(colour.Near), wantNear},
		{"Check", func(h held) answer {
			return answer{e: colour.Check(h.kind, h.p, h.colours)}
		}, wantCheck},
		{"Fault", func(h held) answer {
			l, e := colour.Fault(h.kind, h.p, h.colours)
			return answer{list: l, e: e}
		}, wantFault},
		{"Greedy", func(h held) answer {
			l, n, e := colour.Greedy(h.kind, h.p, h.list)
			return answer{list: l, n: n, e: e}
		}, wantGreedy},
		{"Bound", func(h held) answer {
			n, e := colour.Bound(h.kind, h.p, h.list)
			return answer{n: n, e: e}
		}, wantBound},
		{"Floor", func(h held) answer {
			n, e := colour.Floor(h.kind, h.p)
			return answer{n: n, e: e}
		}, wantFloor},
		{"Least", func(h held) answer {
			n, e := colour.Least(h.kind, h.p)
			return answer{n: n, e: e}
		}, wantLeast},
		{"Classes", func(h held) answer {
			l, e := colour.Classes(h.colours)
			return answer{lists: l, e: e}
		}, wantClasses},
	}
}

// callOf is a call by its name.
func callOf(name string) call {
	l := allCalls()
	return l[slices.IndexFunc(l, func(c call) bool { return c.name == name })]
}

func wantColumns(h held) answer {
	s, may := plainRead(h.p)
	if !may {
		return answer{e: api.ErrPattern}
	}
	return answer{p: s.meeting().pattern()}
}

func wantRows(h held) answer {
	s, may := plainRead(h.p)
	if !may {
		return answer{e: api.ErrPattern}
	}
	return answer{p: s.turned().meeting().pattern()}
}

func wantNear(h held) answer {
	s, may := plainRead(h.p)
	switch {
	case !may:
		return answer{e: api.ErrPattern}
	case !s.isGraph():
		return answer{e: api.ErrGraph}
	}
	return answer{p: s.near().pattern()}
}

// plainLook is what all calls with a kind look at first.
func plainLook(h held) (sheet, api.Errno) {
	s, may := plainRead(h.p)
	switch {
	case !may:
		return s, api.ErrPattern
	case !slices.Contains(allKinds(), h.kind):
		return s, api.ErrColourKind
	case isOfGraphs(h.kind) && !s.isGraph():
		return s, api.ErrGraph
	}
	return s, api.OK
}

// areColours tells whether these are colours.
func areColours(l []int) bool {
	for _, k := range l {
		if k < 0 || k > 65536 {
			return false
		}
	}
	return true
}

// isOrder tells whether a list is an order of n things: each of them is counted.
func isOrder(l []int, n int) bool {
	for v := range n {
		times := 0
		for _, u := range l {
			if u == v {
				times++
			}
		}
		if times != 1 {
			return false
		}
	}
	return len(l) == n
}

func wantFault(h held) answer {
	s, e := plainLook(h)
	switch {
	case e != api.OK:
		return answer{e: e}
	case len(h.colours) != s.things(h.kind) || !areColours(h.colours):
		return answer{e: api.ErrColours}
	}
	return answer{list: plainFault(h.kind, s, h.colours)}
}

func wantCheck(h held) answer {
	a := wantFault(h)
	if len(a.list) > 0 {
		return answer{e: api.ErrColouring}
	}
	return a
}

func wantGreedy(h held) answer {
	s, e := plainLook(h)
	switch {
	case e != api.OK:
		return answer{e: e}
	case !isOrder(h.list, s.things(h.kind)):
		return answer{e: api.ErrOrder}
	}
	l := plainGreedy(h.kind, s, h.list, plainly)
	return answer{list: l, n: plainNumber(l)}
}

func wantBound(h held) answer {
	s, e := plainLook(h)
	switch {
	case e != api.OK:
		return answer{e: e}
	case !isOrder(h.list, s.things(h.kind)):
		return answer{e: api.ErrOrder}
	}
	return answer{n: plainBound(h.kind, s, h.list)}
}

func wantFloor(h held) answer {
	s, e := plainLook(h)
	if e != api.OK {
		return answer{e: e}
	}
	return answer{n: plainFloor(h.kind, s)}
}

func wantLeast(h held) answer {
	s, e := plainLook(h)
	switch {
	case e != api.OK:
		return answer{e: e}
	case s.things(h.kind) > 8:
		return answer{e: api.ErrArg}
	}
	return answer{n: plainLeast(h.kind, s)}
}

func wantClasses(h held) answer {
	if len(h.colours) > 128 || !areColours(h.colours) {
		return answer{e: api.ErrColours}
	}
	z := make([][]int, plainNumber(h.colours))
	for _, k := range h.colours {
		z[k] = nil
		for v, c := range h.colours {
			if c == k {
				z[k] = append(z[k], v)
			}
		}
	}
	return answer{lists: z}
}

// wantPlain fails if a call tells another thing than the plain one.
func wantPlain(t *testing.T, c call, h held) answer {
	t.Helper()
	a, b := c.do(h), c.want(h)
	if !a.same(b) {
		t.Fatalf("%s of kind %d, pattern %s, order %s, colours %s: %s, want %s", c.name, h.kind, short(fmt.Sprint(h.p)), short(fmt.Sprint(h.list)), short(fmt.Sprint(h.colours)), short(a.text()), short(b.text()))
	}
	return a
}
