package sparse

import (
	"maps"
	"slices"

	"slope/api"
	"slope/rational"
)

// told is what is told of places in any order: of each place its values, in the
// order in which they came. Grids are built of it; the map's own order is never
// seen, since each row's columns are sorted first.
type told[V any] map[place][]V

// put tells one value of a place.
func (t told[V]) put(at place, v V) { t[at] = append(t[at], v) }

// putAll tells all values of a grid.
func (t told[V]) putAll(g grid[V]) {
	for at, v := range g.cells() {
		t.put(at, v)
	}
}

// gather is what lists of one length tell of places.
func gather[V any](rs, cs []int, vals []V) told[V] {
	t := told[V]{}
	for i, v := range vals {
		t.put(place{rs[i], cs[i]}, v)
	}
	return t
}

// gatherAll is what patterns tell, one after the other.
func gatherAll(l []api.Pattern) told[nothing] {
	t := told[nothing]{}
	for _, p := range l {
		t.putAll(gridOf(p))
	}
	return t
}

// keep leaves away the places that don't pass, by themselves and by how often they were told.
func (t told[V]) keep(passes func(at place, times int) bool) {
	maps.DeleteFunc(t, func(at place, l []V) bool { return !passes(at, len(l)) })
}

// columns are each row's columns, rising.
func (t told[V]) columns(rows int) [][]int {
	l := make([][]int, rows)
	for at := range t {
		l[at.row] = append(l[at.row], at.col)
	}
	for _, cols := range l {
		slices.Sort(cols)
	}
	return l
}

// joined is the grid of that size with each place's values made into one.
func (t told[V]) joined(rows, width int, join func(l ...V) (V, api.Errno)) (grid[V], api.Errno) {
	g := grid[V]{width, make([][]cell[V], rows)}
	for r, cols := range t.columns(rows) {
		for _, c := range cols {
			v, e := join(t[place{r, c}]...)
			if e != api.OK {
				return grid[V]{}, e
			}
			g.lines[r] = append(g.lines[r], cell[V]{v, c})
		}
	}
	return g, api.OK
}

// grid is the grid of that size with the value that was told first at each place.
func (t told[V]) grid(rows, width int) grid[V] {
	g, _ := t.joined(rows, width, func(l ...V) (V, api.Errno) { return l[0], api.OK })
	return g
}

// summed is the matrix of that size in which each place's numbers are added up.
func summed(t told[api.Rat], rows, width int) (api.Matrix, api.Errno) {
	g, e := t.joined(rows, width, rational.Sum)
	if e != api.OK {
		return api.Matrix{}, e
	}
	return matrixOf(g), api.OK
}
