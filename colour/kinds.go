package colour

import (
	"slices"

	"slope/api"
	"slope/order"
	"slope/sparse"
)

// rules are what a kind asks for.
type rules struct {
	graph func(p api.Pattern) (api.Pattern, api.Errno) // of the things; neighbours must have unlike colours
	fault func(t task, colours []int) []int            // what shows that colours are none of the kind; nothing, if they are
	bar   func(b *brush, v int)                        // marks the colours that a thing may not have
	floor func(p api.Pattern) int                      // how many colours are needed, if more than 1
	wide  bool                                         // whether those that have a neighbour in common are near
}

// rulesOf is the table of the kinds' rules, and whether there is such a kind.
func rulesOf(kind api.ColourKind) (rules, bool) {
	switch kind {
	case api.ColourProper:
		return rules{graph: itself, fault: pairFault, bar: (*brush).barNeighbours, floor: twoIfAny}, true
	case api.ColourColumns:
		return rules{graph: Columns, fault: columnFault, bar: (*brush).barNeighbours, floor: longestRow}, true
	case api.ColourRows:
		return rules{graph: Rows, fault: rowFault, bar: (*brush).barNeighbours, floor: longestColumn}, true
	case api.ColourStar:
		return rules{graph: itself, fault: starFault, bar: (*brush).barPaths, floor: twoIfAny, wide: true}, true
	case api.ColourAcyclic:
		return rules{graph: itself, fault: circleFault, bar: (*brush).barCircles, floor: twoIfAny, wide: true}, true
	}
	return rules{}, false
}

// task is a kind's rules with a pattern that they can be asked of, and the graph of its things.
type task struct {
	rules
	p api.Pattern
	g api.Pattern
}

// taskOf is ErrPattern, ErrColourKind or ErrGraph, if a kind can't be asked of a pattern.
func taskOf(kind api.ColourKind, p api.Pattern) (task, api.Errno) {
	if !sparse.May(p) {
		return task{}, api.ErrPattern
	}
	r, is := rulesOf(kind)
	if !is {
		return task{}, api.ErrColourKind
	}
	g, e := r.graph(p)
	if e != api.OK {
		return task{}, e
	}
	return task{rules: r, p: p, g: g}, api.OK
}

// longestRow is the greatest number of places in a row.
func longestRow(p api.Pattern) int { return longest(rowsOf(p)) }

// longestColumn is the greatest number of places in a column.
func longestColumn(p api.Pattern) int { return longest(columnsOf(p)) }

// longest is how many the longest of some lines has, 0 of none.
func longest(lines [][]int) int {
	most := 0
	for _, l := range lines {
		most = max(most, len(l))
	}
	return most
}

// twoIfAny is 2, if there are neighbours.
func twoIfAny(g api.Pattern) int { return min(2, len(g.Cols)) }

// bound is 1 more than the greatest number of near things that stand ahead of a thing, 0 of no things.
func (t task) bound(list []int) int {
	place, _ := order.Inverse(list)
	met := marksOf(t.g.Rows)
	most := 0
	for v := range t.g.Rows {
		most = max(most, 1+t.countAhead(v, place, &met))
	}
	return most
}

// countAhead is how many things that are near a thing stand ahead of it; each is marked, for several ways may lead there.
func (t task) countAhead(v int, place []int, met *marks) int {
	met.drop()
	count := 0
	note := func(u int) {
		if place[u] < place[v] && !met.has(u) {
			met.set(u)
			count++
		}
	}
	for _, u := range row(t.g, v) {
		note(u)
		if t.wide && place[u] < place[v] {
			for _, w := range row(t.g, u) {
				note(w)
			}
		}
	}
	return count
}

// mayAll tells whether each is a colour.
func mayAll(colours []int) bool {
	for _, k := range colours {
		if k < 0 || k > api.MaxColour {
			return false
		}
	}
	return true
}

// number is 1 more than the greatest colour, 0 if there is none.
func number(colours []int) int { return 1 + slices.Max(append([]int{none}, colours...)) }
