package symbolic

import (
	"slices"
	"strings"

	"slope/api"
)

// gather is a sum while it is being made: normal forms are added one by one, and
// the limits are looked at each time. The terms of the first one stay as they
// stand, those of the others are found in a map: so a sum of many takes no longer
// than its terms, and a little thing is soon added to a great one.
type gather struct {
	first []*term        // in their order
	later []heap         // in the order in which they came
	where map[string]int // the place of each of these, by its factors' part
	rest  api.Rat
	room  int // of all of them together
}

// heap is like terms; c is what their coefficients have come to, 0 too.
type heap struct {
	c    api.Rat
	like *term // one of them
	at   int   // the place of the first one's like term, or nowhere
}

// nowhere is the place of what the first one has not.
const nowhere = -1

// newGather is the sum of none.
func newGather() *gather {
	return &gather{where: map[string]int{}, rest: whole(0)}
}

// add adds a normal form.
func (g *gather) add(f form) api.Errno {
	if g.room == 0 && len(g.later) == 0 {
		g.first, g.rest, g.room = f.terms(), f.constant(), roomOf(f)
		return api.OK
	}
	rest, e := plus(g.rest, f.constant())
	if e != api.OK {
		return e
	}
	g.room += constantRoom(rest) - constantRoom(g.rest)
	g.rest = rest
	for _, t := range f.terms() {
		if e := g.addTerm(t); e != api.OK {
			return e
		}
	}
	if length(g.room) > api.MaxText && tooLong(g.form()) {
		return api.ErrText
	}
	return api.OK
}

// addTerm adds a term to its heap.
func (g *gather) addTerm(t *term) api.Errno {
	h := g.heapOf(t)
	c, e := plus(h.c, t.c)
	if e != api.OK {
		return e
	}
	g.room -= h.room()
	h.c = c
	g.room += h.room()
	return api.OK
}

// heapOf is the heap of the terms like this one: a new one, if there is none yet.
func (g *gather) heapOf(t *term) *heap {
	i, found := g.where[t.part]
	if !found {
		i = len(g.later)
		g.where[t.part] = i
		g.later = append(g.later, g.newHeap(t))
	}
	return &g.later[i]
}

// newHeap is a heap of the first one's term like this one, or of nothing.
func (g *gather) newHeap(t *term) heap {
	if at, found := search(g.first, t.part); found {
		return heap{g.first[at].c, t, at}
	}
	return heap{whole(0), t, nowhere}
}

// room is how many bytes a heap takes in the sum's text at most.
func (h heap) room() int {
	if isZero(h.c) {
		return 0
	}
	return room(h.c, h.like.part)
}

// form is what was added up, as a normal form.
func (g *gather) form() form {
	if len(g.later) == 0 {
		return formOf(g.first, g.rest)
	}
	list := slices.Clone(g.first)
	var fresh []*term
	for _, h := range g.later {
		switch {
		case h.at != nowhere:
			list[h.at] = h.term()
		case !isZero(h.c):
			fresh = append(fresh, h.term())
		}
	}
	list = slices.DeleteFunc(list, func(t *term) bool { return t == nil })
	return formOf(merged(list, fresh), g.rest)
}

// term is a heap as one term, or nil, if it has come to 0.
func (h heap) term() *term {
	if isZero(h.c) {
		return nil
	}
	return h.like.with(h.c)
}

// merged are terms that stand in their order and fresh ones, which come in any, no two of like factors.
func merged(list, fresh []*term) []*term {
	slices.SortFunc(fresh, func(a, b *term) int { return strings.Compare(a.part, b.part) })
	z := make([]*term, 0, len(list)+len(fresh))
	for _, t := range fresh {
		n, _ := search(list, t.part)
		z = append(append(z, list[:n]...), t)
		list = list[n:]
	}
	return append(z, list...)
}

// search is the place of a term of that part among terms in their order, or where it would stand, and whether there is one.
func search(list []*term, part string) (int, bool) {
	return slices.BinarySearchFunc(list, part, func(t *term, part string) int { return strings.Compare(t.part, part) })
}
