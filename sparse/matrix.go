package sparse

import (
	"slices"

	"slope/api"
	"slope/rational"
)

// MayMatrix tells whether a matrix may be.
func MayMatrix(m api.Matrix) bool {
	return May(m.P) && len(m.Vals) == len(m.P.Cols) && mayAll(m.Vals)
}

// FromEntries is the matrix of these entries.
func FromEntries(rows int, width int, rs []int, cs []int, vals []api.Rat) (api.Matrix, api.Errno) {
	switch {
	case !fits(rows, width):
		return api.Matrix{}, api.ErrPattern
	case len(rs) != len(cs) || len(cs) != len(vals):
		return api.Matrix{}, api.ErrShape
	case !mayAll(vals):
		return api.Matrix{}, api.ErrRat
	case !within(rs, rows) || !within(cs, width):
		return api.Matrix{}, api.ErrArg
	}
	return summed(gather(rs, cs, vals), rows, width)
}

// Get is an entry's number.
func Get(m api.Matrix, r int, c int) (api.Rat, bool) {
	if !MayMatrix(m) {
		return api.Rat{}, false
	}
	i, found := find(m.P, r, c)
	if !found {
		return api.Rat{}, false
	}
	return copyRat(m.Vals[i]), true
}

// Same tells whether two matrices that may be are alike.
func Same(a api.Matrix, b api.Matrix) bool {
	// What is limb by limb like a matrix that may be may be itself.
	return alike(a.P, b.P) && slices.EqualFunc(a.Vals, b.Vals, sameNumber) && MayMatrix(a)
}

// TurnMatrix exchanges rows and columns.
func TurnMatrix(m api.Matrix) (api.Matrix, api.Errno) {
	if !MayMatrix(m) {
		return api.Matrix{}, api.ErrMatrix
	}
	return matrixOf(numbersOf(m).turned()), api.OK
}

// Plus is the sum of two matrices.
func Plus(a api.Matrix, b api.Matrix) (api.Matrix, api.Errno) {
	switch {
	case !MayMatrix(a) || !MayMatrix(b):
		return api.Matrix{}, api.ErrMatrix
	case !sameSize(a.P, b.P):
		return api.Matrix{}, api.ErrShape
	}
	t := told[api.Rat]{}
	t.putAll(numbersOf(a))
	t.putAll(numbersOf(b))
	return summed(t, a.P.Rows, a.P.Width)
}

// Times is the product of two matrices.
func Times(a api.Matrix, b api.Matrix) (api.Matrix, api.Errno) {
	switch {
	case !MayMatrix(a) || !MayMatrix(b):
		return api.Matrix{}, api.ErrMatrix
	case a.P.Width != b.P.Rows:
		return api.Matrix{}, api.ErrShape
	}
	g, e := product(numbersOf(a), numbersOf(b), rational.Dot)
	if e != api.OK {
		return api.Matrix{}, e
	}
	return matrixOf(g), api.OK
}

// Dense is a matrix's numbers, row by row.
func Dense(m api.Matrix) ([][]api.Rat, api.Errno) {
	if !MayMatrix(m) {
		return nil, api.ErrMatrix
	}
	l := make([][]api.Rat, m.P.Rows)
	for r := range l {
		l[r] = zeros(m.P.Width)
	}
	for at, v := range numbersOf(m).cells() {
		l[at.row][at.col] = copyRat(v)
	}
	return l, api.OK
}

// Sparse is the matrix of the numbers that are not 0.
func Sparse(l [][]api.Rat, width int) (api.Matrix, api.Errno) {
	if !fits(len(l), width) {
		return api.Matrix{}, api.ErrPattern
	}
	for _, row := range l {
		if len(row) != width {
			return api.Matrix{}, api.ErrShape
		}
	}
	for _, row := range l {
		if !mayAll(row) {
			return api.Matrix{}, api.ErrRat
		}
	}
	return matrixOf(fullGrid(l, width)), api.OK
}

// Pad lays a matrix on a pattern.
func Pad(m api.Matrix, p api.Pattern) (api.Matrix, bool, api.Errno) {
	switch {
	case !MayMatrix(m):
		return api.Matrix{}, false, api.ErrMatrix
	case !May(p):
		return api.Matrix{}, false, api.ErrPattern
	case !sameSize(m.P, p):
		return api.Matrix{}, false, api.ErrShape
	}
	vals, all := zeros(len(p.Cols)), true
	for at, v := range numbersOf(m).cells() {
		if i, found := find(p, at.row, at.col); found {
			vals[i] = v
		} else if !isZero(v) {
			all = false
		}
	}
	return matrixOf(read(p, vals)), all, api.OK
}
