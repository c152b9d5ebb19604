package solve

import (
	"slices"

	"slope/api"
	"slope/natural"
	"slope/rational"
)

// columns are the pivots', in their order.
func (s *system) columns() []int {
	l := make([]int, s.rank())
	for k, at := range s.pivots {
		l[k] = at.col
	}
	return l
}

// others are the columns that no pivot stands in, rising.
func (s *system) others() []int {
	first := s.columns()
	var l []int
	for c := range s.width {
		if !slices.Contains(first, c) {
			l = append(l, c)
		}
	}
	return l
}

// told is the pivots with their values: each is the quotient of two minors, over what its row was multiplied by.
func (s *system) told() []api.Pivot {
	l := make([]api.Pivot, s.rank())
	for k, at := range s.pivots {
		under := s.minors[k].times(whole{size: s.scales[at.row]})
		l[k] = api.Pivot{Row: at.row, Col: at.col, Value: ratio(s.minors[k+1], under)}
	}
	return l
}

// determinant is that of the matrix, which is square.
func (s *system) determinant() api.Rat {
	if s.rank() < s.width {
		return rational.FromInt(0)
	}
	m := s.minor()
	if s.isOdd() {
		m = m.negative()
	}
	return ratio(m, whole{size: sure(natural.Product(s.scales...))})
}

// isOdd tells whether an odd number of exchanges brings the pivots' columns into the order of their rows.
func (s *system) isOdd() bool {
	odd := false
	for k, a := range s.pivots {
		for _, b := range s.pivots[:k] {
			if (a.row < b.row) != (a.col < b.col) {
				odd = !odd
			}
		}
	}
	return odd
}

// unsolved is the first row that is 0 but for the number beside it, if there is one.
func (s *system) unsolved() (int, bool) {
	for _, r := range s.left {
		if len(s.rows[r]) > 0 {
			return r, true
		}
	}
	return 0, false
}

// unknowns are, by column, the last minor times the numbers by which the pivots' columns make up column c.
func (s *system) unknowns(c int) []whole {
	x := make([]whole, s.width)
	for k := s.rank() - 1; k >= 0; k-- {
		at := s.pivots[k]
		l := s.rows[at.row]
		n := s.minor().times(l[c])
		for _, later := range s.pivots[k+1:] {
			if u := x[later.col]; !u.isZero() {
				n = n.minus(l[later.col].times(u))
			}
		}
		x[at.col] = n.over(l[at.col])
	}
	return x
}

// solution is, by column, the numbers by which the pivots' columns make up column c; 0 for the others.
func (s *system) solution(c int) []api.Rat {
	l := make([]api.Rat, s.width)
	for i, x := range s.unknowns(c) {
		l[i] = ratio(x, s.minor())
	}
	return l
}

// certificate is one of row bad, which became 0 but for the number beside it when
// this very system was eliminated to gone. It is bad less the multiples of the
// pivots' rows that make it up in the pivots' columns: in the matrix bad hangs on
// these rows, so that they make it up in all other columns too.
func (s *system) certificate(gone *system, bad int) []api.Rat {
	turned := s.turned(gone, bad)
	turned.eliminate(byProduct{})
	y := make([]api.Rat, len(s.rows))
	for r, x := range turned.unknowns(turned.width) {
		y[r] = ratio(x.negative().times(whole{size: s.scales[r]}), turned.minor())
	}
	y[bad] = ratio(whole{size: s.scales[bad]}, one())
	return y
}

// turned is the system of the pivots' columns as rows and the pivots' rows as columns, with row bad beside it.
func (s *system) turned(gone *system, bad int) *system {
	z := &system{width: len(s.rows), minors: []whole{one()}}
	for _, c := range gone.columns() {
		l := row{}
		put := func(to, r int) {
			if v, met := s.rows[r][c]; met {
				l[to] = v
			}
		}
		for _, at := range gone.pivots {
			put(at.row, at.row)
		}
		put(z.width, bad)
		z.addWhole(l, natural.From(1))
	}
	return z
}
