package solve

import "slices"

// eliminate makes steps until no entry is left that could be a pivot.
func (s *system) eliminate(kind candidates) {
	for at, found := s.choose(kind); found; at, found = s.choose(kind) {
		s.step(at)
	}
}

// choose is the next pivot, if there is one.
func (s *system) choose(kind candidates) (candidate, bool) {
	inRows, inCols := s.counts()
	var best candidate
	found := false
	for _, r := range s.left {
		for c := range s.rows[r] {
			if c >= s.width {
				continue
			}
			at := candidate{row: r, col: c, inRow: inRows[r], inCol: inCols[c]}
			if !found || kind.ahead(at, best) {
				best, found = at, true
			}
		}
	}
	return best, found
}

// counts is how many entries of what is left stand in each row and in each column.
func (s *system) counts() ([]int, []int) {
	inRows, inCols := make([]int, len(s.rows)), make([]int, s.width)
	for _, r := range s.left {
		for c := range s.rows[r] {
			if c < s.width {
				inRows[r]++
				inCols[c]++
			}
		}
	}
	return inRows, inCols
}

// step takes multiples of the pivot's row from all others that are left and have an entry in its column.
func (s *system) step(at candidate) {
	s.left = slices.DeleteFunc(s.left, func(r int) bool { return r == at.row })
	s.lift(at.row)
	s.pivots = append(s.pivots, at)
	s.minors = append(s.minors, s.rows[at.row][at.col])
	for _, r := range s.left {
		if _, met := s.rows[r][at.col]; met {
			s.rows[r] = s.cleared(r, at)
			s.levels[r] = s.rank()
		}
	}
}

// lift brings a row to the level of the last step.
func (s *system) lift(r int) {
	if s.levels[r] == s.rank() {
		return
	}
	l := row{}
	for c, v := range s.rows[r] {
		l[c] = v.times(s.minor()).over(s.minors[s.levels[r]])
	}
	s.rows[r] = l
	s.levels[r] = s.rank()
}

// cleared is row r behind the step of a pivot, whose row was lifted. Of two rows
// of one level each number would be p * v - f * u over that level's minor; where
// row r is of a lower one, p and u alone have the factor that it lacks, and its
// own minor goes into the difference.
func (s *system) cleared(r int, at candidate) row {
	old, pivot := s.rows[r], s.rows[at.row]
	p, f, under := pivot[at.col], old[at.col], s.minors[s.levels[r]]
	l := make(row, len(old)+len(pivot))
	for c, v := range old {
		if c == at.col {
			continue
		}
		n := p.times(v)
		if u, met := pivot[c]; met {
			n = n.minus(f.times(u))
		}
		if !n.isZero() {
			l[c] = n.over(under)
		}
	}
	for c, u := range pivot {
		if _, met := old[c]; !met {
			l[c] = f.times(u).negative().over(under)
			s.fill++
		}
	}
	return l
}
