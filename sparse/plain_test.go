package sparse_test

import (
	"math/big"
	"slices"

	"slope/api"
	"slope/rational"
)

// This file works all calls out once more, plainly: a matrix is a sheet on which each place has a field.

// sheet is a matrix with a field for each row and column: nil where there is no place.
type sheet struct {
	rows, width int
	at          [][]*big.Rat
}

func one() *big.Rat { return big.NewRat(1, 1) }

// blank is a sheet without any places.
func blank(rows, width int) sheet {
	s := sheet{rows, width, make([][]*big.Rat, rows)}
	for r := range s.at {
		s.at[r] = make([]*big.Rat, width)
	}
	return s
}

// fill is a sheet of that size with this at its places.
func fill(rows, width int, at func(r, c int) *big.Rat) sheet {
	s := blank(rows, width)
	for r := range rows {
		for c := range width {
			s.at[r][c] = at(r, c)
		}
	}
	return s
}

// mark is a sheet of that size with the places that pass.
func mark(rows, width int, passes func(r, c int) bool) sheet {
	return fill(rows, width, func(r, c int) *big.Rat {
		if passes(r, c) {
			return one()
		}
		return nil
	})
}

// sheetOf reads a pattern that may be.
func sheetOf(p api.Pattern) sheet {
	s := blank(p.Rows, p.Width)
	for r := range p.Rows {
		for _, c := range p.Cols[p.Start[r]:p.Start[r+1]] {
			s.at[r][c] = one()
		}
	}
	return s
}

// numbers reads a matrix that may be.
func numbers(m api.Matrix) sheet {
	s := blank(m.P.Rows, m.P.Width)
	for r := range m.P.Rows {
		for i := m.P.Start[r]; i < m.P.Start[r+1]; i++ {
			s.at[r][m.P.Cols[i]] = bigOf(m.Vals[i])
		}
	}
	return s
}

// matrix writes a sheet down.
func (s sheet) matrix() api.Matrix {
	m := api.Matrix{P: api.Pattern{Rows: s.rows, Width: s.width, Start: make([]int, s.rows+1)}}
	for r := range s.rows {
		for c, v := range s.at[r] {
			if v != nil {
				m.P.Cols = append(m.P.Cols, c)
				m.Vals = append(m.Vals, ratOf(v))
			}
		}
		m.P.Start[r+1] = len(m.P.Cols)
	}
	return m
}

// pattern writes a sheet's places down.
func (s sheet) pattern() api.Pattern { return s.matrix().P }

// inside tells whether there is such a field, with a place.
func (s sheet) inside(r, c int) bool {
	return 0 <= r && r < s.rows && 0 <= c && c < s.width && s.at[r][c] != nil
}

func sideOK(n int) bool { return n >= 0 && n <= 128 }

// plainMay says it as the chapter does.
func plainMay(p api.Pattern) bool {
	if !sideOK(p.Rows) || !sideOK(p.Width) || len(p.Start) != p.Rows+1 || p.Start[0] != 0 {
		return false
	}
	for i := 1; i < len(p.Start); i++ {
		if p.Start[i] < p.Start[i-1] {
			return false
		}
	}
	if p.Start[len(p.Start)-1] != len(p.Cols) {
		return false
	}
	for r := range p.Rows {
		last := -1
		for i := p.Start[r]; i < p.Start[r+1]; i++ {
			if p.Cols[i] <= last || p.Cols[i] >= p.Width {
				return false
			}
			last = p.Cols[i]
		}
	}
	return true
}

// plainMayMatrix says it as the chapter does.
func plainMayMatrix(m api.Matrix) bool {
	return plainMay(m.P) && len(m.Vals) == len(m.P.Cols) && !slices.ContainsFunc(m.Vals, func(r api.Rat) bool { return !rational.May(r) })
}

// plainOrder tells whether a list is an order of n things.
func plainOrder(l []int, n int) bool {
	z := slices.Sorted(slices.Values(l))
	for i, v := range z {
		if v != i {
			return false
		}
	}
	return len(z) == n
}

// reaches is, of each two vertices, whether ways lead from one to the other (each to itself).
func (s sheet) reaches() [][]bool {
	z := make([][]bool, s.rows)
	for r := range z {
		z[r] = make([]bool, s.rows)
		for c := range z[r] {
			z[r][c] = r == c || s.at[r][c] != nil
		}
	}
	for k := range z {
		for i := range z {
			for j := range z {
				z[i][j] = z[i][j] || z[i][k] && z[k][j]
			}
		}
	}
	return z
}

// plainComponents numbers by lowest vertices.
func plainComponents(s sheet) []int {
	way := mark(s.rows, s.rows, func(r, c int) bool { return s.at[r][c] != nil || s.at[c][r] != nil }).reaches()
	z, next := make([]int, s.rows), 0
	for v := range z {
		first := slices.Index(way[v], true)
		if first < v {
			z[v] = z[first]
		} else {
			z[v] = next
			next++
		}
	}
	return z
}

// plainBlocks numbers one block after the other, by the chapter's words.
func plainBlocks(s sheet) []int {
	way := s.reaches()
	z := make([]int, s.rows)
	for v := range z {
		z[v] = -1
	}
	next := func(v int) bool {
		if z[v] >= 0 {
			return false
		}
		for u := range z {
			for c := range z {
				if way[v][u] && way[u][v] && s.at[u][c] != nil && !(way[v][c] && way[c][v]) && z[c] < 0 {
					return false
				}
			}
		}
		return true
	}
	for n := 0; slices.Contains(z, -1); n++ {
		v := 0
		for !next(v) {
			v++
		}
		for u := range z {
			if way[v][u] && way[u][v] {
				z[u] = n
			}
		}
	}
	return z
}

// tooBig tells whether a number has more than 65536 bits above or below.
func tooBig(r *big.Rat) bool { return r.Num().BitLen() > 65536 || r.Denom().BitLen() > 65536 }

// total adds numbers up, each time looking whether the sum is too large; of none it is nil.
func total(l []*big.Rat) (*big.Rat, bool) {
	if len(l) == 0 {
		return nil, false
	}
	z := new(big.Rat)
	for _, v := range l {
		z = new(big.Rat).Add(z, v)
		if tooBig(v) || tooBig(z) {
			return nil, true
		}
	}
	return z, false
}

// totals is a sheet of that size with these numbers added up at each place.
func totals(rows, width int, at func(r, c int) []*big.Rat) (api.Matrix, api.Errno) {
	refused := false
	s := fill(rows, width, func(r, c int) *big.Rat {
		z, big := total(at(r, c))
		refused = refused || big
		return z
	})
	if refused {
		return api.Matrix{}, api.ErrBig
	}
	return s.matrix(), api.OK
}
