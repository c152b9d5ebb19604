package bitset

import (
	"math/bits"

	"slope/api"
)

// shared tells how many numbers two lists of words have in common.
func shared(a, b []uint64) int {
	n := 0
	for i, w := range b {
		n += bits.OnesCount64(a[i] & w)
	}
	return n
}

// Cover picks sets that together have all of s.
func Cover(t api.Table, s api.Set) ([]int, api.Errno) {
	if !MayTable(t) || !May(s) {
		return nil, api.ErrSet
	}
	if t.Size != s.Size {
		return nil, api.ErrUniverse
	}
	left := clone(s)
	most := make([]int, len(t.Sets))
	for i := range most {
		most[i] = s.Size
	}
	var picks []int
	for count(left.Words) > 0 {
		best := pick(t, left, most)
		if best < 0 {
			return nil, api.ErrNone
		}
		picks = append(picks, best)
		join(left, t.Sets[best], andNot)
	}
	return picks, api.OK
}

// pick is the first of the sets that have the most of what is left; -1: none has any. What a set has of it never grows, so a set is looked at again only if the most that it had last time would still be the best.
func pick(t api.Table, left api.Set, most []int) int {
	best, has := -1, 0
	for i, s := range t.Sets {
		if most[i] <= has {
			continue
		}
		most[i] = shared(left.Words, s.Words)
		if most[i] > has {
			best, has = i, most[i]
		}
	}
	return best
}
