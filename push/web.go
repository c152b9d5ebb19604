package push

import (
	"cmp"
	"slices"

	"slope/api"
)

// edge is what stands between two nodes, or a node and itself: first is the one whose turn comes first.
type edge struct{ first, other int }

// link is an edge with its number.
type link struct {
	edge
	val api.Rat
}

// web is all edges. Each stands in the list of its first node alone: when that
// node's turn comes it has all its edges there, and with the list all are gone.
// A list is sorted by the numbers of the other nodes, the greatest ahead: the way
// back comes to lesser and lesser nodes, so what is new mostly belongs at its end.
type web struct {
	never []bool // of each node, whether its turn never comes: it is an input
	lists [][]link
}

// webOf is that of a tape's nodes, without any edge.
func webOf(t api.Tape) web {
	w := web{lists: make([][]link, len(t.Ops))}
	for _, op := range t.Ops {
		w.never = append(w.never, op.Kind == api.OpInput)
	}
	return w
}

// between is the edge of two nodes, whichever is named first.
func (w web) between(a, b int) edge {
	switch {
	case w.never[a] == w.never[b]:
		return edge{max(a, b), min(a, b)}
	case w.never[a]:
		return edge{b, a}
	}
	return edge{a, b}
}

// take is a node's list, which is gone from the web then.
func (w web) take(n int) []link {
	l := w.lists[n]
	w.lists[n] = nil
	return l
}

// grow merges links that have one first node, sorted like its list, into that list.
func (w web) grow(more ...link) {
	if len(more) > 0 {
		n := more[0].first
		w.lists[n] = merged(w.lists[n], more)
	}
}

// merged is a list with more links: numbers of the same edge are added up.
func merged(l, more []link) []link {
	var fresh []link
	i := len(l) - 1
	for _, m := range slices.Backward(more) {
		for i >= 0 && l[i].other < m.other {
			i--
		}
		if i >= 0 && l[i].edge == m.edge {
			l[i].val = sum(l[i].val, m.val)
		} else {
			fresh = append(fresh, m)
		}
	}
	return laid(l, fresh)
}

// laid is a list with fresh links, the least ahead, laid in where they belong.
func laid(l, fresh []link) []link {
	i := len(l) - 1
	l = append(l, fresh...)
	at := len(l) - 1
	for _, f := range fresh {
		for i >= 0 && l[i].other < f.other {
			l[at] = l[i]
			i--
			at--
		}
		l[at] = f
		at--
	}
	return l
}

// below are the edges between nodes below upto whose numbers are not 0, in the chapter's order and in new memory.
func (w web) below(upto int) []api.Edge {
	var z []api.Edge
	for _, list := range w.lists[:upto] {
		for _, l := range list {
			if l.other < upto && !isZero(l.val) {
				z = append(z, api.Edge{A: min(l.first, l.other), B: max(l.first, l.other), Val: copyRat(l.val)})
			}
		}
	}
	slices.SortFunc(z, func(x, y api.Edge) int {
		return cmp.Or(cmp.Compare(x.A, y.A), cmp.Compare(x.B, y.B))
	})
	return z
}
