package colour

import "slices"

// none is in the place of a thing's colour as long as it has none.
const none = -1

// marks are numbers that are marked. Nothing is ever cleared: a number is marked if
// it was so under the present count.
type marks struct {
	count int
	last  []int // of each number the count under which it was marked
}

// marksOf is none of n numbers.
func marksOf(n int) marks { return marks{count: 1, last: make([]int, n)} }

func (m *marks) drop()          { m.count++ }
func (m *marks) set(k int)      { m.last[k] = m.count }
func (m *marks) has(k int) bool { return m.last[k] == m.count }

// brush gives things colours, one by one.
type brush struct {
	task
	colours []int
	barred  marks // colours that the thing in hand may not have
	sets    forest
}

func newBrush(t task) *brush {
	return &brush{task: t, colours: slices.Repeat([]int{none}, t.g.Rows), barred: marksOf(t.g.Rows)}
}

// paint gives each thing, in this order, the least colour that it may have.
func (b *brush) paint(list []int) []int {
	for _, v := range list {
		b.colours[v] = b.free(v)[0]
	}
	return b.colours
}

// fewest is the least number of colours with which the things from v on can be
// coloured too, if that is below best; else best. Colours come in as 0, 1, 2, ..
// without gaps, for their names don't matter; and part of a colouring is of its
// kind, so what is barred once is barred for all that follows.
func (b *brush) fewest(v, best int) int {
	used := number(b.colours)
	if used >= best || v == len(b.colours) {
		return min(used, best)
	}
	for _, k := range b.free(v) {
		b.colours[v] = k
		best = b.fewest(v+1, best)
	}
	b.colours[v] = none
	return best
}

// free are the colours that a thing without one may have: of those that are in use, and the next one, which is never barred.
func (b *brush) free(v int) []int {
	b.barred.drop()
	b.bar(b, v)
	var l []int
	for k := range number(b.colours) + 1 {
		if !b.barred.has(k) {
			l = append(l, k)
		}
	}
	return l
}

// coloured are the neighbours of a thing that have a colour.
func (b *brush) coloured(v int) []int {
	var l []int
	for _, u := range row(b.g, v) {
		if b.colours[u] != none {
			l = append(l, u)
		}
	}
	return l
}

// barNeighbours bars the neighbours' colours.
func (b *brush) barNeighbours(v int) {
	for _, u := range b.coloured(v) {
		b.barred.set(b.colours[u])
	}
}

// barPaths bars also those with which four vertices in a row would have two colours: v - u - w - x, where x is like u, and x - v - u - w, where x is like u.
func (b *brush) barPaths(v int) {
	b.barNeighbours(v)
	for _, u := range b.coloured(v) {
		twin := b.hasTwin(v, u)
		for _, w := range b.coloured(u) {
			if !b.barred.has(b.colours[w]) && (twin || b.hasTwin(w, u)) {
				b.barred.set(b.colours[w])
			}
		}
	}
}

// hasTwin tells whether a vertex has another neighbour of the colour of this one.
func (b *brush) hasTwin(v, u int) bool {
	return slices.ContainsFunc(row(b.g, v), func(x int) bool { return x != u && b.colours[x] == b.colours[u] })
}

// barCircles bars also those with which a circle would have two colours: a way in them joins two neighbours already.
func (b *brush) barCircles(v int) {
	b.barNeighbours(v)
	b.sets.grow(b.g, b.colours)
	near := b.coloured(v)
	for k := range number(b.colours) {
		if !b.barred.has(k) && b.anyJoined(near, k) {
			b.barred.set(k)
		}
	}
}

// anyJoined tells whether a way in some colour and this one, which none of the vertices has, leads from one to another.
func (b *brush) anyJoined(vertices []int, colour int) bool {
	var roots []int
	for _, u := range vertices {
		roots = append(roots, b.sets.root(element(u, colour)))
	}
	slices.Sort(roots)
	return len(slices.Compact(roots)) < len(vertices)
}
