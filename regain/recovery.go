package regain

import (
	"slices"

	"slope/api"
)

// recovery is a pattern with colours that were checked to be of a kind: it finds the entries in sums that fit.
type recovery interface {
	entries(sums [][]api.Rat) ([]api.Rat, api.Errno)
}

// recoveryOf is that of a kind.
func recoveryOf(kind api.ColourKind, p api.Pattern, colours []int, l layout) recovery {
	switch kind {
	case api.ColourAcyclic:
		return substituted{p: p, colours: colours, home: l.home, bins: l.bins(), mirror: mirrorOf(p)}
	case api.ColourStar:
		return directOf(l, mirrorOf(p))
	}
	return directOf(l, nil)
}

// mirrorOf tells of each entry (i, j) of a symmetric pattern which one is (j, i).
func mirrorOf(p api.Pattern) []int {
	// The rows i rise, and so do row j's columns: its next one is always i.
	next := slices.Clone(p.Start)
	mirror := make([]int, len(p.Cols))
	for k, j := range p.Cols {
		mirror[k] = next[j]
		next[j]++
	}
	return mirror
}

// direct finds each entry in a sum in which it stands alone.
type direct struct {
	at     []spot // of each entry that sum
	mirror []int  // of each entry of a symmetric pattern the one across the diagonal; nothing, if none is asked for
}

// directOf leaves an entry at home, if it is alone there; a star colouring leaves it alone across the diagonal, if not.
func directOf(l layout, mirror []int) direct {
	d := direct{at: slices.Clone(l.home), mirror: mirror}
	bins := l.bins()
	for k, s := range l.home {
		if len(bins[s.row][s.at]) > 1 {
			d.at[k] = l.home[mirror[k]]
		}
	}
	return d
}

func (d direct) entries(sums [][]api.Rat) ([]api.Rat, api.Errno) {
	vals := make([]api.Rat, len(d.at))
	for k, s := range d.at {
		vals[k] = copied(sums[s.row][s.at])
	}
	return vals, api.OK
}

// copied is a number in new memory.
func copied(r api.Rat) api.Rat {
	return api.Rat{Neg: r.Neg, Num: slices.Clone(r.Num), Den: slices.Clone(r.Den)}
}

// regained is what the four calls that take sums apart answer.
func regained(kind api.ColourKind, p api.Pattern, colours []int, sums [][]api.Rat) (api.Matrix, api.Errno) {
	l, e := looked(kind, p, colours, sums)
	if e != api.OK {
		return api.Matrix{}, e
	}
	r := recoveryOf(kind, p, colours, l)
	vals, e := r.entries(sums)
	if e == api.OK {
		e = proven(r, l, vals, sums)
	}
	if e != api.OK {
		return api.Matrix{}, e
	}
	own := api.Pattern{Rows: p.Rows, Width: p.Width, Start: slices.Clone(p.Start), Cols: slices.Clone(p.Cols)}
	return api.Matrix{P: own, Vals: vals}, api.OK
}

// proven is OK, if the entries that were found have these sums, and are symmetric where they must be.
func proven(r recovery, l layout, vals []api.Rat, sums [][]api.Rat) api.Errno {
	if !even(r, vals) {
		return api.ErrSum
	}
	again, e := l.addUp(vals)
	switch {
	case e != api.OK:
		return e
	case !slices.EqualFunc(again, sums, alikeAll):
		return api.ErrSum
	}
	return api.OK
}

// even tells whether the two entries of each edge are alike.
func even(r recovery, vals []api.Rat) bool {
	switch r := r.(type) {
	case direct:
		// Each of the two was found by itself.
		for k, across := range r.mirror {
			if !alike(vals[k], vals[across]) {
				return false
			}
		}
	case substituted:
		// Both of the two were found at once.
	}
	return true
}

// alike tells whether two numbers are the same: each is written in just one way.
func alike(a, b api.Rat) bool {
	return a.Neg == b.Neg && slices.Equal(a.Num, b.Num) && slices.Equal(a.Den, b.Den)
}

func alikeAll(a, b []api.Rat) bool { return slices.EqualFunc(a, b, alike) }
