package solve

import (
	"slope/api"
	"slope/natural"
)

// row is a row's numbers that are not 0, by column.
type row map[int]whole

// system is a matrix whose rows were brought to whole numbers, with what was done to it.
//
// The minor of step k is the determinant of the rows and columns of the first k
// pivots, in their order. A row of level k holds the numbers that it has behind
// k steps, times the minor of step k: that is, minors of k + 1 rows. A step
// leaves rows alone that have no entry in the pivot's column: they stay at their
// level.
type system struct {
	rows   []row
	width  int       // columns of the matrix; those from here on stand beside it
	scales []api.Nat // by what each row was multiplied
	levels []int     // of each row
	left   []int     // the rows that are no pivot's
	pivots []candidate
	minors []whole // of each step; of step 0 it is 1
	fill   int
}

// systemOf is that of a matrix and of the numbers beside its rows, in column width.
func systemOf(a api.Matrix, b []api.Rat) *system {
	s := &system{width: a.P.Width, minors: []whole{one()}}
	for r := range b {
		from, to := a.P.Start[r], a.P.Start[r+1]
		s.add(a.P.Cols[from:to], a.Vals[from:to], b[r])
	}
	return s
}

// add lays a row of these entries behind the others, and a number beside it.
func (s *system) add(cols []int, vals []api.Rat, beside api.Rat) {
	scale := beside.Den
	for _, v := range vals {
		scale = sure(natural.Lcm(scale, v.Den))
	}
	l := row{}
	put := func(c int, v api.Rat) {
		if len(v.Num) > 0 {
			l[c] = whole{v.Neg, sure(natural.Mul(v.Num, quotient(scale, v.Den)))}
		}
	}
	for i, c := range cols {
		put(c, vals[i])
	}
	put(s.width, beside)
	s.addWhole(l, scale)
}

// addWhole lays a row of whole numbers behind the others.
func (s *system) addWhole(l row, scale api.Nat) {
	s.left = append(s.left, len(s.rows))
	s.rows = append(s.rows, l)
	s.scales = append(s.scales, scale)
	s.levels = append(s.levels, 0)
}

// putUnits lays the identity beside the matrix. Its rows are multiplied as the matrix' are.
func (s *system) putUnits() {
	for r := range s.rows {
		s.rows[r][s.width+r] = whole{size: s.scales[r]}
	}
}

// rank is how many pivots there are.
func (s *system) rank() int { return len(s.pivots) }

// minor is that of the last step.
func (s *system) minor() whole { return s.minors[s.rank()] }
