package solve

import "cmp"

// candidate is an entry that may be the next pivot: its place, and how many entries of what is left stand in its row and in its column.
type candidate struct {
	row, col     int
	inRow, inCol int
}

// candidates is a kind of them: it tells which one of two is the pivot. No two places are alike to it, so the best of many is one alone.
type candidates interface {
	ahead(a, b candidate) bool
}

type (
	// byColumn takes the lowest column, so that the pivots' columns are the first ones; in it a row with few entries, which fills the others least.
	byColumn struct{}
	// byProduct is Markowitz' rule.
	byProduct struct{}
)

func (byColumn) ahead(a, b candidate) bool {
	return cmp.Or(cmp.Compare(a.col, b.col), cmp.Compare(a.inRow, b.inRow), cmp.Compare(a.row, b.row)) < 0
}

func (byProduct) ahead(a, b candidate) bool {
	return cmp.Or(cmp.Compare(a.product(), b.product()), cmp.Compare(a.row, b.row), cmp.Compare(a.col, b.col)) < 0
}

// product is how many places a step could fill at the most.
func (a candidate) product() int { return (a.inRow - 1) * (a.inCol - 1) }
