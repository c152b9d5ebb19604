package order

import (
	"slices"

	"slope/api"
	"slope/sparse"
)

// nowhere is the place of a vertex that hasn't been met.
const nowhere = -1

// isGraph tells whether a pattern may be and is a graph.
func isGraph(g api.Pattern) bool {
	if !sparse.Symmetric(g) {
		return false
	}
	for v := range g.Rows {
		if slices.Contains(neighbours(g, v), v) {
			return false
		}
	}
	return true
}

// neighbours are those of a vertex, rising; they lie within the pattern.
func neighbours(g api.Pattern, v int) []int { return g.Cols[g.Start[v]:g.Start[v+1]] }

// degrees are how many neighbours each vertex has.
func degrees(g api.Pattern) []int {
	l := make([]int, g.Rows)
	for v := range l {
		l[v] = len(neighbours(g, v))
	}
	return l
}

// backs are how many neighbours stand ahead of each vertex, by the vertices' places.
func backs(g api.Pattern, place []int) []int {
	l := make([]int, g.Rows)
	for v := range l {
		for _, u := range neighbours(g, v) {
			if place[u] < place[v] {
				l[v]++
			}
		}
	}
	return l
}

// places are where each of n vertices stands in a list, and whether the list is an order of them.
func places(list []int, n int) ([]int, bool) {
	if len(list) != n {
		return nil, false
	}
	l := slices.Repeat([]int{nowhere}, n)
	for i, v := range list {
		if v < 0 || v >= n || l[v] != nowhere {
			return nil, false
		}
		l[v] = i
	}
	return l, true
}

// isOrder tells whether a list is an order of n vertices.
func isOrder(list []int, n int) bool {
	_, is := places(list, n)
	return is
}
