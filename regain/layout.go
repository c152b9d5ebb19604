package regain

import (
	"slices"

	"slope/api"
	"slope/rational"
	"slope/sparse"
)

// spot is one of the sums: number at of a row.
type spot struct{ row, at int }

// layout tells to which of the sums each entry is added. Entries are told by
// their places in the pattern's order: so in each sum they stand by rising
// column, or, where rows are coloured, by rising row.
type layout struct {
	rows, width int    // of the sums
	home        []spot // of each entry
}

// layoutOf is that of a pattern whose rows are coloured, with kind ColourRows, or else its columns.
func layoutOf(kind api.ColourKind, p api.Pattern, colours []int) layout {
	l := layout{rows: p.Rows, width: number(colours)}
	if kind == api.ColourRows {
		l.rows, l.width = number(colours), p.Width
	}
	for i := range p.Rows {
		for _, j := range p.Cols[p.Start[i]:p.Start[i+1]] {
			l.home = append(l.home, homeOf(kind, colours, i, j))
		}
	}
	return l
}

// homeOf is the sum that entry (i, j) is added to.
func homeOf(kind api.ColourKind, colours []int, i, j int) spot {
	if kind == api.ColourRows {
		return spot{colours[i], j}
	}
	return spot{i, colours[j]}
}

// fits tells whether sums have the layout's rows, each with as many numbers.
func (l layout) fits(sums [][]api.Rat) bool {
	return len(sums) == l.rows && !slices.ContainsFunc(sums, func(r []api.Rat) bool { return len(r) != l.width })
}

// bins are the entries of each sum, rising.
func (l layout) bins() [][][]int {
	b := make([][][]int, l.rows)
	for r := range b {
		b[r] = make([][]int, l.width)
	}
	for k, s := range l.home {
		b[s.row][s.at] = append(b[s.row][s.at], k)
	}
	return b
}

// addUp is the sums of the entries.
func (l layout) addUp(vals []api.Rat) ([][]api.Rat, api.Errno) {
	sums := make([][]api.Rat, l.rows)
	for r, row := range l.bins() {
		sums[r] = make([]api.Rat, l.width)
		for at, entries := range row {
			n, e := rational.Sum(chosen(vals, entries)...)
			if e != api.OK {
				return nil, e
			}
			sums[r][at] = n
		}
	}
	return sums, api.OK
}

// chosen are some of the numbers.
func chosen(vals []api.Rat, which []int) []api.Rat {
	l := make([]api.Rat, len(which))
	for i, k := range which {
		l[i] = vals[k]
	}
	return l
}

// compressed is what Compress and CompressRows answer.
func compressed(kind api.ColourKind, m api.Matrix, colours []int) ([][]api.Rat, api.Errno) {
	switch {
	case !sparse.MayMatrix(m):
		return nil, api.ErrMatrix
	case !mayColours(colours, things(kind, m.P)):
		return nil, api.ErrColours
	}
	return layoutOf(kind, m.P, colours).addUp(m.Vals)
}

// unit is a list of zeros with a 1 at one place.
func unit(width, at int) []api.Rat {
	l := make([]api.Rat, width)
	for i := range l {
		l[i] = rational.FromInt(0)
	}
	l[at] = rational.FromInt(1)
	return l
}

// timesRow is the products of a row's entries, by rising column.
func timesRow(m api.Matrix, i int, x []api.Rat) ([]api.Rat, api.Errno) {
	var l []api.Rat
	for k := m.P.Start[i]; k < m.P.Start[i+1]; k++ {
		n, e := rational.Mul(m.Vals[k], x[m.P.Cols[k]])
		if e != api.OK {
			return nil, e
		}
		l = append(l, n)
	}
	return l, api.OK
}
