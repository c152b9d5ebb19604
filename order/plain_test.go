package order_test

import (
	"fmt"
	"slices"
	"testing"

	"slope/api"
	"slope/order"
)

// plainGraph reads a pattern as chapters 9 and 11 tell it: the sheet, and whether it is a graph.
func plainGraph(p api.Pattern) (sheet, bool) {
	if p.Rows < 0 || p.Rows > 128 || p.Width != p.Rows || len(p.Start) != p.Rows+1 || p.Start[0] != 0 {
		return nil, false
	}
	for r := range p.Rows {
		if p.Start[r] > p.Start[r+1] || p.Start[r+1] > len(p.Cols) {
			return nil, false
		}
	}
	if p.Start[p.Rows] != len(p.Cols) {
		return nil, false
	}
	s := blank(p.Rows)
	for r := range s {
		last := -1
		for k := p.Start[r]; k < p.Start[r+1]; k++ {
			c := p.Cols[k]
			if c <= last || c >= p.Width || c == r {
				return nil, false
			}
			s[r][c], last = true, c
		}
	}
	for u := range s {
		for v := range s {
			if s[u][v] != s[v][u] {
				return nil, false
			}
		}
	}
	return s, true
}

// plainIs tells whether a list is an order of n vertices: each of them is counted.
func plainIs(l []int, n int) bool {
	for v := range n {
		times := 0
		for _, u := range l {
			if u == v {
				times++
			}
		}
		if times != 1 {
			return false
		}
	}
	return len(l) == n
}

// best is the vertex that is left and than which none is better.
func best(n int, left func(v int) bool, better func(u, v int) bool) int {
	z := -1
	for v := range n {
		if left(v) && (z < 0 || better(v, z)) {
			z = v
		}
	}
	return z
}

// plainOrder looks at every vertex at every step.
func plainOrder(kind api.OrderKind, s sheet, script []int) []int {
	n := len(s)
	var put []int
	isPut := func(v int) bool { return slices.Contains(put, v) }
	left := func(v int) bool { return !isPut(v) }
	degree := func(v int) int { return s.degree(v, func(int) bool { return true }) }
	for len(put) < n {
		var v int
		switch kind {
		case api.OrderNatural:
			v = len(put)
		case api.OrderLargest:
			v = best(n, left, func(u, v int) bool { return degree(u) > degree(v) || degree(u) == degree(v) && u < v })
		case api.OrderSmallest:
			among := func(v int) int { return s.degree(v, left) }
			v = best(n, left, func(u, v int) bool { return among(u) < among(v) || among(u) == among(v) && u > v })
		case api.OrderIncidence:
			among := func(v int) int { return s.degree(v, isPut) }
			v = best(n, left, func(u, v int) bool {
				if among(u) != among(v) {
					return among(u) > among(v)
				}
				return degree(u) > degree(v) || degree(u) == degree(v) && u < v
			})
		default:
			v = script[len(put)]
		}
		put = append(put, v)
	}
	if kind == api.OrderSmallest {
		slices.Reverse(put)
	}
	return put
}

// plainBack looks for each vertex at what stands ahead of it in the list.
func plainBack(s sheet, l []int) (int, []int) {
	most, backs := 0, make([]int, len(s))
	for i, v := range l {
		for _, u := range l[:i] {
			if s[v][u] {
				backs[v]++
			}
		}
		most = max(most, backs[v])
	}
	return most, backs
}

// plainCores takes for each k all vertices away that have fewer than k neighbours, until there are none: what is left has core k at least.
func plainCores(s sheet) []int {
	z := make([]int, len(s))
	for k := 1; k < len(s); k++ {
		gone := make([]bool, len(s))
		for again := true; again; {
			again = false
			for v := range s {
				if !gone[v] && s.degree(v, func(u int) bool { return !gone[u] }) < k {
					gone[v], again = true, true
				}
			}
		}
		for v := range s {
			if !gone[v] {
				z[v] = k
			}
		}
	}
	return z
}

// leastWithin is the least number of neighbours that a vertex of a set has within it; the set is told by bits, and is not empty.
func (s sheet) leastWithin(set int) int {
	least := len(s)
	for v := range s {
		if set>>v&1 > 0 {
			least = min(least, s.degree(v, func(u int) bool { return set>>u&1 > 0 }))
		}
	}
	return least
}

// setCores are cores by all sets of vertices, as the chapter says what they are.
func setCores(s sheet) []int {
	z := make([]int, len(s))
	for set := 1; set < 1<<len(s); set++ {
		k := s.leastWithin(set)
		for v := range s {
			if set>>v&1 > 0 {
				z[v] = max(z[v], k)
			}
		}
	}
	return z
}

// greatest is the greatest of some, 0 of none.
func greatest(l []int) int {
	z := 0
	for _, n := range l {
		z = max(z, n)
	}
	return z
}

// held is what calls are given; no call takes all of it.
type held struct {
	kind api.OrderKind
	g    api.Pattern
	list []int
	n    int
}

// answer is what a call tells.
type answer struct {
	n    int
	list []int
	e    api.Errno
}

func (a answer) text() string {
	return fmt.Sprint(a.n, " ", append([]int{}, a.list...), " error ", int(a.e))
}

// call is one of the face, and what it should tell.
type call struct {
	name string
	do   func(h held) answer
	want func(h held) answer
}

func allCalls() []call {
	return []call{
		{"Order", func(h held) answer {
			l, e := order.Order(h.kind, h.g, h.list)
			return answer{list: l, e: e}
		}, wantOrder},
		{"Back", func(h held) answer {
			n, l, e := order.Back(h.g, h.list)
			return answer{n, l, e}
		}, wantBack},
		{"Degeneracy", func(h held) answer {
			n, l, e := order.Degeneracy(h.g)
			return answer{n, l, e}
		}, wantDegeneracy},
		{"Check", func(h held) answer {
			return answer{e: order.Check(h.n, h.list)}
		}, wantCheck},
		{"Inverse", func(h held) answer {
			l, e := order.Inverse(h.list)
			return answer{list: l, e: e}
		}, wantInverse},
	}
}

func wantOrder(h held) answer {
	s, is := plainGraph(h.g)
	switch {
	case !is:
		return answer{e: api.ErrGraph}
	case !slices.Contains(allKinds(), h.kind):
		return answer{e: api.ErrOrderKind}
	case h.kind == api.OrderScript && !plainIs(h.list, len(s)):
		return answer{e: api.ErrOrder}
	}
	return answer{list: plainOrder(h.kind, s, h.list)}
}

func wantBack(h held) answer {
	s, is := plainGraph(h.g)
	switch {
	case !is:
		return answer{e: api.ErrGraph}
	case !plainIs(h.list, len(s)):
		return answer{e: api.ErrOrder}
	}
	n, l := plainBack(s, h.list)
	return answer{n: n, list: l}
}

func wantDegeneracy(h held) answer {
	s, is := plainGraph(h.g)
	if !is {
		return answer{e: api.ErrGraph}
	}
	n, _ := plainBack(s, plainOrder(api.OrderSmallest, s, nil))
	return answer{n: n, list: plainCores(s)}
}

func wantCheck(h held) answer {
	switch {
	case h.n < 0 || h.n > 128:
		return answer{e: api.ErrGraph}
	case !plainIs(h.list, h.n):
		return answer{e: api.ErrOrder}
	}
	return answer{}
}

func wantInverse(h held) answer {
	if len(h.list) > 128 || !plainIs(h.list, len(h.list)) {
		return answer{e: api.ErrOrder}
	}
	z := make([]int, len(h.list))
	for i, v := range h.list {
		z[v] = i
	}
	return answer{list: z}
}

// wantPlain fails if a call tells another thing than the plain one.
func wantPlain(t *testing.T, c call, h held) answer {
	t.Helper()
	a, b := c.do(h), c.want(h)
	if a.text() != b.text() {
		t.Fatalf("%s of kind %d, graph %s, list %s, n %d: %s, want %s", c.name, h.kind, short(fmt.Sprint(h.g)), short(fmt.Sprint(h.list)), h.n, short(a.text()), short(b.text()))
	}
	return a
}

// P11.1: each kind, of all graphs of up to six vertices.
func TestOrderOfAllSmall(t *testing.T) {
	t.Parallel()
	for n := range 7 {
		allGraphs(n, func(s sheet) {
			g := s.pattern()
			for _, kind := range allKinds() {
				wantPlain(t, allCalls()[0], held{kind: kind, g: g, list: upTo(n)})
			}
		})
	}
}

// P11.2, P11.1: all orders of all graphs of up to five vertices: their backs, and the same as scripts.
func TestBackOfAllSmall(t *testing.T) {
	t.Parallel()
	for n := range 6 {
		allGraphs(n, func(s sheet) {
			h := held{kind: api.OrderScript, g: s.pattern()}
			allOrders(n, func(l []int) {
				h.list = l
				wantPlain(t, allCalls()[0], h)
				wantPlain(t, allCalls()[1], h)
			})
		})
	}
}

// P11.3: the cores of all graphs of up to six vertices, against all sets of their vertices.
func TestCoresOfAllSmall(t *testing.T) {
	t.Parallel()
	for n := range 7 {
		allGraphs(n, func(s sheet) { wantCores(t, s) })
	}
}

// P11.3: likewise of some larger graphs.
func TestCoresBySets(t *testing.T) {
	t.Parallel()
	d := dice(3)
	for range 100 {
		wantCores(t, d.small(10))
	}
	for n := range 11 {
		for _, s := range d.graphs(n) {
			wantCores(t, s)
		}
	}
}

// wantCores fails if the cores are not those that all sets of vertices make, or the number is not OrderSmallest's back.
func wantCores(t *testing.T, s sheet) {
	t.Helper()
	a := wantPlain(t, allCalls()[2], held{g: s.pattern()})
	if want := setCores(s); !slices.Equal(a.list, want) {
		t.Fatalf("cores of %v: %v, want %v", s.pattern(), a.list, want)
	}
	l, e := order.Order(api.OrderSmallest, s.pattern(), nil)
	n, _, f := order.Back(s.pattern(), l)
	if n != a.n || e != api.OK || f != api.OK {
		t.Fatalf("OrderSmallest's back of %v: %d, errors %d, %d, Degeneracy %d", s.pattern(), n, e, f, a.n)
	}
}

// P11.1 to P11.5: every call with graphs at random and lists that are orders or nearly.
func TestRandom(t *testing.T) {
	t.Parallel()
	d := dice(11)
	met := map[string]int{}
	for range 4000 {
		s := d.small(20)
		h := held{kind: pick(&d, allKinds()...), g: s.pattern(), list: d.shuffled(len(s)), n: len(s)}
		switch d.next(6) {
		case 0:
			h.list = d.nearly(h.list)
		case 1:
			h.n += pick(&d, -1, 1)
		}
		for _, c := range allCalls() {
			met[fmt.Sprint(c.name, wantPlain(t, c, h).e)]++
		}
	}
	for _, name := range []string{"Order0", "Back0", "Degeneracy0", "Check0", "Inverse0", fmt.Sprint("Order", api.ErrOrder), fmt.Sprint("Back", api.ErrOrder), fmt.Sprint("Check", api.ErrOrder), fmt.Sprint("Inverse", api.ErrOrder)} {
		if met[name] < 100 {
			t.Errorf("%s was met %d times", name, met[name])
		}
	}
}

// nearly is a list with one thing changed; it may be an order still.
func (d *dice) nearly(l []int) []int {
	l = slices.Clone(l)
	switch {
	case len(l) == 0 || d.next(4) == 0:
		return append(l, pick(d, -1, 0, len(l), len(l)+1))
	case d.next(3) == 0:
		return l[:len(l)-1]
	}
	l[d.next(len(l))] = pick(d, -1, 0, len(l)-1, len(l), len(l)+1, d.next(len(l)))
	return l
}

// P11.5: all lists of up to five numbers from -1 to 5, with all numbers of vertices up to 5: as orders, and undone.
func TestCheckOfAllSmall(t *testing.T) {
	t.Parallel()
	orders := 0
	allLists(5, -1, 5, func(l []int) {
		for n := -1; n <= 6; n++ {
			if wantPlain(t, allCalls()[3], held{list: l, n: n}).e == api.OK {
				orders++
			}
		}
		wantPlain(t, allCalls()[4], held{list: l})
	})
	if orders != 1+1+2+6+24+120 {
		t.Errorf("%d orders", orders)
	}
}
