package sparse

import (
	"iter"

	"slope/api"
)

// place is a row and a column.
type place struct{ row, col int }

// cell is a column of a row, and what stands there (ahead of it, so that nothing takes no room).
type cell[V any] struct {
	val V
	col int
}

// grid is a matrix by rows over whatever stands at its places: numbers make a
// matrix of it, nothing makes a pattern. Each row's columns rise.
type grid[V any] struct {
	width int
	lines [][]cell[V]
}

// nothing is what stands at a pattern's places.
type nothing struct{}

// noSum is what is made of nothing, however often it meets itself.
func noSum(a, b []nothing) (nothing, api.Errno) { return nothing{}, api.OK }

// read is the grid of a pattern that may be with a value for each place.
func read[V any](p api.Pattern, vals []V) grid[V] {
	g := grid[V]{p.Width, make([][]cell[V], p.Rows)}
	for r := range g.lines {
		for i := p.Start[r]; i < p.Start[r+1]; i++ {
			g.lines[r] = append(g.lines[r], cell[V]{vals[i], p.Cols[i]})
		}
	}
	return g
}

// gridOf is the grid of a pattern.
func gridOf(p api.Pattern) grid[nothing] { return read(p, make([]nothing, len(p.Cols))) }

// numbersOf is the grid of a matrix; the numbers are the matrix's own.
func numbersOf(m api.Matrix) grid[api.Rat] { return read(m.P, m.Vals) }

// pattern is a grid's places.
func (g grid[V]) pattern() api.Pattern {
	p := api.Pattern{Rows: len(g.lines), Width: g.width, Start: []int{0}}
	for _, line := range g.lines {
		for _, c := range line {
			p.Cols = append(p.Cols, c.col)
		}
		p.Start = append(p.Start, len(p.Cols))
	}
	return p
}

// matrixOf is the matrix of a grid, its numbers in new memory.
func matrixOf(g grid[api.Rat]) api.Matrix {
	m := api.Matrix{P: g.pattern()}
	for _, v := range g.cells() {
		m.Vals = append(m.Vals, copyRat(v))
	}
	return m
}

// fullGrid has a place for each number that is not 0.
func fullGrid(l [][]api.Rat, width int) grid[api.Rat] {
	g := grid[api.Rat]{width, make([][]cell[api.Rat], len(l))}
	for r, row := range l {
		for c, v := range row {
			if !isZero(v) {
				g.lines[r] = append(g.lines[r], cell[api.Rat]{v, c})
			}
		}
	}
	return g
}

// cells tells each place with what stands there, row by row.
func (g grid[V]) cells() iter.Seq2[place, V] {
	return func(yield func(place, V) bool) {
		for r, line := range g.lines {
			for _, c := range line {
				if !yield(place{r, c.col}, c.val) {
					return
				}
			}
		}
	}
}

// moved is a grid of that size with each cell at another place; no two go to one.
func (g grid[V]) moved(rows, width int, to func(place) place) grid[V] {
	t := told[V]{}
	for at, v := range g.cells() {
		t.put(to(at), v)
	}
	return t.grid(rows, width)
}

// turned is the grid with rows and columns exchanged.
func (g grid[V]) turned() grid[V] {
	return g.moved(g.width, len(g.lines), func(at place) place { return place{at.col, at.row} })
}

// bothWays is what a square grid and its turned one tell.
func (g grid[V]) bothWays() told[V] {
	t := told[V]{}
	t.putAll(g)
	t.putAll(g.turned())
	return t
}

// closed is a square grid and its turned one together; where both have a place the grid's own value stands.
func (g grid[V]) closed() grid[V] {
	return g.bothWays().grid(len(g.lines), g.width)
}

// product has a place wherever a row of a meets a column of b; dot makes its
// value of the values that meet there, those of the lowest columns of a first.
func product[V any](a, b grid[V], dot func(x, y []V) (V, api.Errno)) (grid[V], api.Errno) {
	g := grid[V]{b.width, make([][]cell[V], len(a.lines))}
	for r, line := range a.lines {
		left, right := make([][]V, b.width), make([][]V, b.width)
		for _, x := range line {
			for _, y := range b.lines[x.col] {
				left[y.col] = append(left[y.col], x.val)
				right[y.col] = append(right[y.col], y.val)
			}
		}
		for c := range left {
			if len(left[c]) == 0 {
				continue
			}
			v, e := dot(left[c], right[c])
			if e != api.OK {
				return grid[V]{}, e
			}
			g.lines[r] = append(g.lines[r], cell[V]{v, c})
		}
	}
	return g, api.OK
}
