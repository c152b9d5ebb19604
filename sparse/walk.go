package sparse

import "slices"

// components numbers the vertices of a symmetric grid: those that ways join get
// one number, and the lowest vertex without one begins the next.
func components(g grid[nothing]) []int {
	number := slices.Repeat([]int{-1}, len(g.lines))
	next := 0
	for v := range number {
		if number[v] < 0 {
			spread(g, v, next, number)
			next++
		}
	}
	return number
}

// spread gives a vertex and all that ways lead to from there that number.
func spread(g grid[nothing], from, n int, number []int) {
	number[from] = n
	for open := []int{from}; len(open) > 0; {
		last := len(open) - 1
		line := g.lines[open[last]]
		open = open[:last]
		for _, c := range line {
			if number[c.col] < 0 {
				number[c.col] = n
				open = append(open, c.col)
			}
		}
	}
}

// walk goes along all places of a square grid once, as deep as it can first, and
// so finds the blocks: of a block's vertices the one that is met first can't go
// back beyond itself.
type walk struct {
	g      grid[nothing]
	met    []int // of each vertex when it was met, from 1 on; 0: not yet
	early  []int // the earliest vertex of an open block that it is known to lead to
	gone   []int // how many of its places were gone along
	leader []int // the lowest vertex of its block; -1: the block is open
	path   []int // the vertices from where the walk began to where it is
	open   []int // the vertices of open blocks as they were met
	count  int
}

// leaders is of each vertex the lowest one of its block.
func leaders(g grid[nothing]) []int {
	n := len(g.lines)
	w := walk{g: g, met: make([]int, n), early: make([]int, n), gone: make([]int, n), leader: slices.Repeat([]int{-1}, n)}
	for v := range n {
		if w.met[v] == 0 {
			w.from(v)
		}
	}
	return w.leader
}

// from walks from a vertex that was not met yet.
func (w *walk) from(start int) {
	w.enter(start)
along:
	for len(w.path) > 0 {
		v := w.path[len(w.path)-1]
		for w.gone[v] < len(w.g.lines[v]) {
			next := w.g.lines[v][w.gone[v]].col
			w.gone[v]++
			if w.met[next] == 0 {
				// v is left here, and taken up again behind this place.
				w.enter(next)
				continue along
			}
			if w.leader[next] < 0 {
				w.early[v] = min(w.early[v], w.met[next])
			}
		}
		w.leave(v)
	}
}

// enter meets a vertex.
func (w *walk) enter(v int) {
	w.count++
	w.met[v], w.early[v] = w.count, w.count
	w.path, w.open = append(w.path, v), append(w.open, v)
}

// leave goes back from the path's last vertex, all of whose places were gone along.
func (w *walk) leave(v int) {
	w.path = w.path[:len(w.path)-1]
	if w.early[v] == w.met[v] {
		w.closeBlock(v)
	} else {
		// Not the first one of its block, so there is one ahead of it on the path.
		ahead := w.path[len(w.path)-1]
		w.early[ahead] = min(w.early[ahead], w.early[v])
	}
}

// closeBlock takes the block that begins with v off the open vertices.
func (w *walk) closeBlock(v int) {
	from := slices.Index(w.open, v)
	block := w.open[from:]
	lowest := slices.Min(block)
	for _, u := range block {
		w.leader[u] = lowest
	}
	w.open = w.open[:from]
}

// numbered is each vertex's block's number in the chapter's order: of the blocks
// that wait for none without a number, that with the lowest vertex comes next.
func numbered(g grid[nothing], leader []int) []int {
	back := g.turned()
	number := slices.Repeat([]int{-1}, len(leader))
	waits := make([]int, len(leader)) // of a leader: how many places lead out of its block to blocks without numbers
	for at := range g.cells() {
		if leader[at.row] != leader[at.col] {
			waits[leader[at.row]]++
		}
	}
next:
	for n := 0; ; n++ {
		for v := range leader {
			if leader[v] == v && number[v] < 0 && waits[v] == 0 {
				numberBlock(back, leader, v, n, number, waits)
				continue next
			}
		}
		return number
	}
}

// numberBlock gives a leader's block its number; the blocks that lead there wait for it no more.
func numberBlock(back grid[nothing], leader []int, of, n int, number, waits []int) {
	for v := range leader {
		if leader[v] != of {
			continue
		}
		number[v] = n
		for _, c := range back.lines[v] {
			if leader[c.col] != of {
				waits[leader[c.col]]--
			}
		}
	}
}
