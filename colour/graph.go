package colour

import (
	"slices"

	"slope/api"
	"slope/order"
	"slope/sparse"
)

// itself is a graph that is given as one: ErrPattern or ErrGraph, if it is none.
func itself(g api.Pattern) (api.Pattern, api.Errno) {
	switch {
	case !sparse.May(g):
		return api.Pattern{}, api.ErrPattern
	case !sparse.Symmetric(g) || hasDiagonal(g):
		return api.Pattern{}, api.ErrGraph
	}
	return g, api.OK
}

// hasDiagonal tells whether a square pattern has a place (r, r).
func hasDiagonal(p api.Pattern) bool {
	for r, l := range rowsOf(p) {
		if slices.Contains(l, r) {
			return true
		}
	}
	return false
}

// row is the columns of a row, of a graph the neighbours of a vertex: rising; they lie within the pattern.
func row(p api.Pattern, r int) []int { return p.Cols[p.Start[r]:p.Start[r+1]] }

// rowsOf are all rows' columns.
func rowsOf(p api.Pattern) [][]int {
	l := make([][]int, p.Rows)
	for r := range l {
		l[r] = row(p, r)
	}
	return l
}

// columnsOf are all columns' rows, rising.
func columnsOf(p api.Pattern) [][]int {
	l := make([][]int, p.Width)
	for r := range p.Rows {
		for _, c := range row(p, r) {
			l[c] = append(l[c], r)
		}
	}
	return l
}

// isOrder tells whether a list is an order of n things.
func isOrder(list []int, n int) bool { return order.Check(n, list) == api.OK }

// pairs tells of each two things whether they are to be neighbours.
type pairs [api.MaxSide][api.MaxSide]bool

// meet makes neighbours of each two things of a list.
func (s *pairs) meet(l []int) {
	for _, u := range l {
		for _, v := range l {
			s[u][v] = true
		}
	}
}

// graph is the graph of the first n things; nothing is its own neighbour.
func (s *pairs) graph(n int) api.Pattern {
	g := api.Pattern{Rows: n, Width: n, Start: []int{0}}
	for u := range n {
		for v := range n {
			if s[u][v] && u != v {
				g.Cols = append(g.Cols, v)
			}
		}
		g.Start = append(g.Start, len(g.Cols))
	}
	return g
}

// meeting is the graph of n things in which those that stand in one line are neighbours.
func meeting(lines [][]int, n int) api.Pattern {
	var s pairs
	for _, l := range lines {
		s.meet(l)
	}
	return s.graph(n)
}

// near is the graph of neighbours and of those that have one in common.
func near(g api.Pattern) api.Pattern {
	var s pairs
	for v, l := range rowsOf(g) {
		s.meet(l)
		for _, u := range l {
			s[v][u] = true
		}
	}
	return s.graph(g.Rows)
}
