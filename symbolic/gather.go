package symbolic

import "slope/api"

// gather is a sum while it is being made: normal forms are added one by one, and
// the limits are looked at each time. Like terms are found in a map, so that a
// sum of many takes no longer than its terms.
type gather struct {
	list  []heap         // in the order in which they came
	where map[string]int // the place of each in the list, by its factors' part
	rest  api.Rat
	room  int // of all of them together
}

// heap is like terms; c is what their coefficients have come to, 0 too.
type heap struct {
	c     api.Rat
	first *term
	more  bool
}

// newGather is the sum of none.
func newGather() *gather {
	return &gather{where: map[string]int{}, rest: whole(0)}
}

// add adds a normal form.
func (g *gather) add(f form) api.Errno {
	rest, e := plus(g.rest, f.constant())
	if e != api.OK {
		return e
	}
	g.room += constantRoom(rest) - constantRoom(g.rest)
	g.rest = rest
	for _, t := range f.terms() {
		if e := g.addTerm(t); e != api.OK {
			return e
		}
	}
	if length(g.room) > api.MaxText && tooLong(g.form()) {
		return api.ErrText
	}
	return api.OK
}

// addTerm adds a term to its heap.
func (g *gather) addTerm(t *term) api.Errno {
	i, found := g.where[t.part]
	if !found {
		g.where[t.part] = len(g.list)
		g.list = append(g.list, heap{c: t.c, first: t})
		g.room += room(t.c, t.part)
		return api.OK
	}
	h := &g.list[i]
	c, e := plus(h.c, t.c)
	if e != api.OK {
		return e
	}
	g.room -= h.room()
	h.c, h.more = c, true
	g.room += h.room()
	return api.OK
}

// room is how many bytes a heap takes in the sum's text at most.
func (h heap) room() int {
	if isZero(h.c) {
		return 0
	}
	return room(h.c, h.first.part)
}

// term is the heap as one term.
func (h heap) term() *term {
	if h.more {
		return h.first.with(h.c)
	}
	return h.first
}

// form is what was added up, as a normal form.
func (g *gather) form() form {
	var list []*term
	for _, h := range g.list {
		if !isZero(h.c) {
			list = append(list, h.term())
		}
	}
	return sorted(list, g.rest)
}
