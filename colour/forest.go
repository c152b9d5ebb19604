package colour

import "slope/api"

// forest is sets that are joined, as an array of parents. An element is a thing
// with a colour that is not its own: the thing among the things of those two
// colours. Two elements are in one set just if a way in their two colours leads
// from the one thing to the other: so one array does for all pairs of colours.
type forest [api.MaxSide * api.MaxSide]int16

// element is a thing's with a colour below MaxSide.
func element(v, colour int) int { return v*api.MaxSide + colour }

// grow parts all sets and joins them along all neighbours that have colours, unlike
// ones and below the vertices' number. It tells the two ends of each edge that
// found its sets joined: in their two colours it closes a circle, and of two
// colours that have a circle some edge does.
func (f *forest) grow(g api.Pattern, colours []int) [][2]int {
	f.part(g.Rows)
	var closing [][2]int
	for u := range g.Rows {
		for _, v := range row(g, u) {
			if u > v || colours[u] == none || colours[v] == none {
				continue
			}
			a, b := f.root(element(u, colours[v])), f.root(element(v, colours[u]))
			if a == b {
				closing = append(closing, [2]int{u, v})
			}
			f[a] = int16(b)
		}
	}
	return closing
}

// part makes each element of n things and n colours a set of its own.
func (f *forest) part(n int) {
	for v := range n {
		for k := range n {
			f[element(v, k)] = int16(element(v, k))
		}
	}
}

// root is the element that stands for a set.
func (f *forest) root(e int) int {
	for int(f[e]) != e {
		// Each step shortens the way for those that come behind.
		f[e] = f[f[e]]
		e = int(f[e])
	}
	return e
}
