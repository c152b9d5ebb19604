package regain

import (
	"slices"

	"slope/api"
	"slope/rational"
)

// substituted finds entries edge by edge: between the vertices of two colours
// the edges are a forest, and a vertex with one edge left knows its number.
type substituted struct {
	p       api.Pattern
	colours []int
	home    []spot
	bins    [][][]int // of each vertex, by colours, its entries with vertices of that colour
	mirror  []int
}

func (s substituted) entries(sums [][]api.Rat) ([]api.Rat, api.Errno) {
	f := filling{substituted: s, sums: sums, vals: make([]api.Rat, len(s.home)), known: make([]bool, len(s.home))}
	f.fillDiagonal()
	n := number(s.colours)
	for c := range n {
		for d := c + 1; d < n; d++ {
			if e := f.fillForest(c, d); e != api.OK {
				return nil, e
			}
		}
	}
	return f.vals, api.OK
}

// filling is the entries that were found so far.
type filling struct {
	substituted
	sums  [][]api.Rat
	vals  []api.Rat
	known []bool
}

// fillDiagonal finds the entries of the diagonal: no neighbour has the vertex's own colour.
func (f *filling) fillDiagonal() {
	for k, across := range f.mirror {
		if k == across {
			s := f.home[k]
			f.set(k, copied(f.sums[s.row][s.at]))
		}
	}
}

// set keeps the number of an entry and of the one across the diagonal, each in memory of its own.
func (f *filling) set(k int, r api.Rat) {
	across := f.mirror[k]
	f.vals[k], f.vals[across] = r, r
	if across != k {
		f.vals[across] = copied(r)
	}
	f.known[k], f.known[across] = true, true
}

// fillForest finds the entries of the edges between two colours, always at the lowest vertex that has one left.
func (f *filling) fillForest(c, d int) api.Errno {
	left := f.edges(c, d)
	for i := slices.Index(left, 1); i >= 0; i = slices.Index(left, 1) {
		entries := f.bins[i][c+d-f.colours[i]]
		k := f.unknown(entries)
		r, e := f.rest(entries, k)
		if e != api.OK {
			return e
		}
		f.set(k, r)
		left[i]--
		left[f.p.Cols[k]]--
	}
	return api.OK
}

// edges is how many each vertex of the two colours has with the other one; 0 of all others.
func (f *filling) edges(c, d int) []int {
	left := make([]int, len(f.colours))
	for i, own := range f.colours {
		if own == c || own == d {
			left[i] = len(f.bins[i][c+d-own])
		}
	}
	return left
}

// unknown is the one of the entries that is not known yet.
func (f *filling) unknown(entries []int) int {
	return entries[slices.IndexFunc(entries, func(k int) bool { return !f.known[k] })]
}

// rest is the sum that entry k is added to, less the others.
func (f *filling) rest(entries []int, k int) (api.Rat, api.Errno) {
	s := f.home[k]
	l := []api.Rat{f.sums[s.row][s.at]}
	for _, other := range entries {
		if other != k {
			n, _ := rational.Neg(f.vals[other])
			l = append(l, n)
		}
	}
	return rational.Sum(l...)
}
