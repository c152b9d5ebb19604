package sparse

import (
	"slices"

	"slope/api"
	"slope/rational"
)

// fits tells whether a pattern may have that many rows and columns.
func fits(rows, width int) bool {
	return 0 <= rows && rows <= api.MaxSide && 0 <= width && width <= api.MaxSide
}

// within tells whether all of these are 0 to size - 1.
func within(l []int, size int) bool {
	for _, n := range l {
		if n < 0 || n >= size {
			return false
		}
	}
	return true
}

// isRow tells whether these columns rise, within their range.
func isRow(cols []int, width int) bool {
	for i := 1; i < len(cols); i++ {
		if cols[i-1] >= cols[i] {
			return false
		}
	}
	return within(cols, width)
}

// sameSize tells whether patterns have as many rows and columns.
func sameSize(a, b api.Pattern) bool { return a.Rows == b.Rows && a.Width == b.Width }

// alike tells whether patterns are the same.
func alike(a, b api.Pattern) bool {
	return sameSize(a, b) && slices.Equal(a.Start, b.Start) && slices.Equal(a.Cols, b.Cols)
}

// unlike is ErrPattern or ErrShape, if these are no patterns of one size.
func unlike(l []api.Pattern) api.Errno {
	for _, p := range l {
		if !May(p) {
			return api.ErrPattern
		}
	}
	for _, p := range l {
		if !sameSize(p, l[0]) {
			return api.ErrShape
		}
	}
	if len(l) == 0 {
		return api.ErrShape
	}
	return api.OK
}

// squareFault is ErrPattern or ErrShape, if this is no square pattern.
func squareFault(p api.Pattern) api.Errno {
	switch {
	case !May(p):
		return api.ErrPattern
	case p.Rows != p.Width:
		return api.ErrShape
	}
	return api.OK
}

// find is where a place stands among the columns of a pattern that may be, and whether it does.
func find(p api.Pattern, r, c int) (int, bool) {
	if r < 0 || r >= p.Rows {
		return 0, false
	}
	i, found := slices.BinarySearch(p.Cols[p.Start[r]:p.Start[r+1]], c)
	return p.Start[r] + i, found
}

// undone is the order that undoes this one of n things, and whether it is one.
func undone(order []int, n int) ([]int, bool) {
	if len(order) != n || !within(order, n) {
		return nil, false
	}
	back := slices.Repeat([]int{-1}, n)
	for i, v := range order {
		if back[v] >= 0 {
			return nil, false
		}
		back[v] = i
	}
	return back, true
}

// mayAll tells whether each of the numbers may be.
func mayAll(l []api.Rat) bool {
	for _, r := range l {
		if !rational.May(r) {
			return false
		}
	}
	return true
}

// isZero tells whether a number that may be is 0.
func isZero(r api.Rat) bool { return len(r.Num) == 0 }

// sameNumber tells whether two numbers are written alike.
func sameNumber(a, b api.Rat) bool {
	return a.Neg == b.Neg && slices.Equal(a.Num, b.Num) && slices.Equal(a.Den, b.Den)
}

// copyRat is a number in new memory.
func copyRat(r api.Rat) api.Rat {
	return api.Rat{Neg: r.Neg, Num: slices.Clone(r.Num), Den: slices.Clone(r.Den)}
}

// zeros are so many zeros, each in memory of its own.
func zeros(n int) []api.Rat {
	l := make([]api.Rat, n)
	for i := range l {
		l[i] = rational.FromInt(0)
	}
	return l
}
