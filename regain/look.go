package regain

import (
	"slices"

	"slope/api"
	"slope/colour"
	"slope/rational"
	"slope/sparse"
)

// mayAll tells whether each number may be.
func mayAll(l []api.Rat) bool {
	return !slices.ContainsFunc(l, func(r api.Rat) bool { return !rational.May(r) })
}

// mayRows tells whether each number of each row may be.
func mayRows(sums [][]api.Rat) bool {
	return !slices.ContainsFunc(sums, func(l []api.Rat) bool { return !mayAll(l) })
}

// mayColours tells whether these are colours of n things, and few enough for a seed.
func mayColours(colours []int, n int) bool {
	if len(colours) != n {
		return false
	}
	// A seed has no more than MaxSide colours, so one above MaxColour is too great for it as well.
	return !slices.ContainsFunc(colours, func(c int) bool { return c < 0 || c >= api.MaxSide })
}

// number is 1 more than the greatest colour, 0 if there is none.
func number(colours []int) int {
	if len(colours) == 0 {
		return 0
	}
	return 1 + slices.Max(colours)
}

// things is how many a pattern has that a kind colours.
func things(kind api.ColourKind, p api.Pattern) int {
	if kind == api.ColourRows {
		return p.Rows
	}
	return p.Width
}

// isOfGraphs tells whether a kind colours the vertices of a symmetric pattern.
func isOfGraphs(kind api.ColourKind) bool {
	return kind == api.ColourStar || kind == api.ColourAcyclic
}

// isColoured tells whether colours are of a kind for a pattern.
func isColoured(kind api.ColourKind, p api.Pattern, colours []int) bool {
	if isOfGraphs(kind) {
		p, _ = sparse.Graph(p)
	}
	return colour.Check(kind, p, colours) == api.OK
}

// looked is the layout of the sums, or the first error, of all but what the work itself comes to.
func looked(kind api.ColourKind, p api.Pattern, colours []int, sums [][]api.Rat) (layout, api.Errno) {
	switch {
	case !sparse.May(p):
		return layout{}, api.ErrPattern
	case !mayRows(sums):
		return layout{}, api.ErrRat
	case isOfGraphs(kind) && !sparse.Symmetric(p):
		return layout{}, api.ErrSquare
	case !mayColours(colours, things(kind, p)):
		return layout{}, api.ErrColours
	case !isColoured(kind, p, colours):
		return layout{}, api.ErrColouring
	}
	l := layoutOf(kind, p, colours)
	if !l.fits(sums) {
		return layout{}, api.ErrShape
	}
	return l, api.OK
}
