package order

import "slices"

// buckets keep the vertices that are left, by a count of each that changes while
// others are taken. Vertices are called by their ranks: of those in one bucket
// the lowest rank is taken first, which is how each kind's rule for ties holds.
type buckets struct {
	byRank []int   // the vertices
	rank   []int   // of each vertex
	count  []int   // of each vertex
	ranks  [][]int // of each count, rising
	gone   []bool  // of each vertex, whether it was taken
}

// fill puts all vertices into buckets: byRank is an order of them, count has each one's count, below their number.
func fill(byRank []int, count []int) *buckets {
	n := len(byRank)
	b := &buckets{byRank: byRank, rank: make([]int, n), count: count, ranks: make([][]int, n), gone: make([]bool, n)}
	for i, v := range byRank {
		b.rank[v] = i
		b.ranks[count[v]] = append(b.ranks[count[v]], i)
	}
	return b
}

// lowest is the least count that a vertex has; there must be one left.
func (b *buckets) lowest() int { return slices.IndexFunc(b.ranks, isFull) }

// highest is the greatest count that a vertex has; there must be one left.
func (b *buckets) highest() int {
	c := len(b.ranks) - 1
	for !isFull(b.ranks[c]) {
		c--
	}
	return c
}

// isFull tells whether a bucket has a vertex.
func isFull(ranks []int) bool { return len(ranks) > 0 }

// take takes the first vertex out of a bucket that has one.
func (b *buckets) take(count int) int {
	v := b.byRank[b.ranks[count][0]]
	b.ranks[count] = b.ranks[count][1:]
	b.gone[v] = true
	return v
}

// shift changes a vertex's count, if the vertex is left.
func (b *buckets) shift(v int, by int) {
	if b.gone[v] {
		return
	}
	from, to := &b.ranks[b.count[v]], &b.ranks[b.count[v]+by]
	i, _ := slices.BinarySearch(*from, b.rank[v])
	*from = slices.Delete(*from, i, i+1)
	i, _ = slices.BinarySearch(*to, b.rank[v])
	*to = slices.Insert(*to, i, b.rank[v])
	b.count[v] += by
}
