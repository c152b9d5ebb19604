package bitset

import (
	"iter"
	"math/bits"
	"slices"

	"slope/api"
)

// rising hands the numbers of words out from the least on.
func rising(words []uint64) iter.Seq[int] {
	return func(yield func(int) bool) {
		for i, w := range words {
			for ; w != 0; w &= w - 1 {
				if !yield(i*wordBits + bits.TrailingZeros64(w)) {
					return
				}
			}
		}
	}
}

// falling hands them out from the greatest on.
func falling(words []uint64) iter.Seq[int] {
	return func(yield func(int) bool) {
		for i, w := range slices.Backward(words) {
			for w != 0 {
				top := bits.Len64(w) - 1
				w &^= bit(top)
				if !yield(i*wordBits + top) {
					return
				}
			}
		}
	}
}

// kept are a copy of the words, that nobody writes over; of a set that may not be none.
func kept(s api.Set) []uint64 {
	if !May(s) {
		return nil
	}
	return clone(s).Words
}

// count tells how many bits are set.
func count(words []uint64) int {
	n := 0
	for _, w := range words {
		n += bits.OnesCount64(w)
	}
	return n
}

// Has tells whether e is in s.
func Has(s api.Set, e int) bool {
	return May(s) && 0 <= e && e < s.Size && s.Words[e/wordBits]&bit(e) != 0
}

// Count tells how many elements a set has.
func Count(s api.Set) int {
	if !May(s) {
		return 0
	}
	return count(s.Words)
}

// Elements gives a set's elements, rising.
func Elements(s api.Set) []int {
	l := make([]int, 0, Count(s))
	for e := range All(s) {
		l = append(l, e)
	}
	return l
}

// All hands a set's elements out, rising.
func All(s api.Set) iter.Seq[int] { return rising(kept(s)) }

// Falling hands a set's elements out, falling.
func Falling(s api.Set) iter.Seq[int] { return falling(kept(s)) }

// Rank tells how many elements are below e.
func Rank(s api.Set, e int) int {
	if !May(s) || e <= 0 {
		return 0
	}
	if e >= s.Size {
		return count(s.Words)
	}
	i := e / wordBits
	return count(s.Words[:i]) + bits.OnesCount64(s.Words[i]&(bit(e)-1))
}

// Select gives the element with k elements below it; -1: none.
func Select(s api.Set, k int) int {
	if !May(s) || k < 0 {
		return -1
	}
	for i, w := range s.Words {
		n := bits.OnesCount64(w)
		if k < n {
			for range k {
				w &= w - 1
			}
			return i*wordBits + bits.TrailingZeros64(w)
		}
		k -= n
	}
	return -1
}

// Next gives the least element from e on; -1: none.
func Next(s api.Set, e int) int {
	e = max(e, 0)
	if !May(s) || e >= s.Size {
		return -1
	}
	i := e / wordBits
	w := s.Words[i] &^ (bit(e) - 1)
	for w == 0 {
		i++
		if i == len(s.Words) {
			return -1
		}
		w = s.Words[i]
	}
	return i*wordBits + bits.TrailingZeros64(w)
}

// Last gives the greatest element up to e; -1: none.
func Last(s api.Set, e int) int {
	if !May(s) || s.Size == 0 || e < 0 {
		return -1
	}
	e = min(e, s.Size-1)
	i := e / wordBits
	w := s.Words[i] & (bit(e) | (bit(e) - 1))
	for w == 0 {
		i--
		if i < 0 {
			return -1
		}
		w = s.Words[i]
	}
	return i*wordBits + bits.Len64(w) - 1
}
