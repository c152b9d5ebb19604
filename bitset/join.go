package bitset

import (
	"cmp"
	"slices"

	"slope/api"
)

// What two words are joined to.
func or(a, b uint64) uint64     { return a | b }
func and(a, b uint64) uint64    { return a & b }
func andNot(a, b uint64) uint64 { return a &^ b }
func xor(a, b uint64) uint64    { return a ^ b }

// join joins the words of s to those of z.
func join(z, s api.Set, by func(a, b uint64) uint64) {
	for i, w := range s.Words {
		z.Words[i] = by(z.Words[i], w)
	}
}

// alike looks whether all sets may be and are of the universe of that size.
func alike(size int, sets []api.Set) api.Errno {
	other := !fits(size)
	for _, s := range sets {
		if !May(s) {
			return api.ErrSet
		}
		other = other || s.Size != size
	}
	if other {
		return api.ErrUniverse
	}
	return api.OK
}

// joined joins all sets to one whose words all begin as start.
func joined(size int, sets []api.Set, start uint64, by func(a, b uint64) uint64) (api.Set, api.Errno) {
	if err := alike(size, sets); err != api.OK {
		return api.Set{}, err
	}
	z := blank(size)
	for i := range z.Words {
		z.Words[i] = start
	}
	trim(z)
	for _, s := range sets {
		join(z, s, by)
	}
	return z, api.OK
}

// Union gives what is in any of the sets.
func Union(size int, sets ...api.Set) (api.Set, api.Errno) {
	return joined(size, sets, 0, or)
}

// Inter gives what is in all of the sets.
func Inter(size int, sets ...api.Set) (api.Set, api.Errno) {
	return joined(size, sets, ^uint64(0), and)
}

// pair joins b to a.
func pair(a, b api.Set, by func(a, b uint64) uint64) (api.Set, api.Errno) {
	if err := alike(a.Size, []api.Set{a, b}); err != api.OK {
		return api.Set{}, err
	}
	z := clone(a)
	join(z, b, by)
	return z, api.OK
}

// Minus gives what is in a and not in b.
func Minus(a api.Set, b api.Set) (api.Set, api.Errno) { return pair(a, b, andNot) }

// Differ gives what is in just one of the two.
func Differ(a api.Set, b api.Set) (api.Set, api.Errno) { return pair(a, b, xor) }

// Rest gives what is not in s.
func Rest(s api.Set) (api.Set, api.Errno) {
	return joined(s.Size, []api.Set{s}, ^uint64(0), andNot)
}

// leaves tells whether two sets of one universe, joined, leave nothing.
func leaves(a, b api.Set, by func(a, b uint64) uint64) bool {
	if alike(a.Size, []api.Set{a, b}) != api.OK {
		return false
	}
	for i, w := range b.Words {
		if by(a.Words[i], w) != 0 {
			return false
		}
	}
	return true
}

// Equal tells whether two sets have the same elements.
func Equal(a api.Set, b api.Set) bool { return leaves(a, b, xor) }

// Subset tells whether all of a's elements are b's.
func Subset(a api.Set, b api.Set) bool { return leaves(a, b, andNot) }

// Disjoint tells whether no element of a is b's.
func Disjoint(a api.Set, b api.Set) bool { return leaves(a, b, and) }

// Compare puts sets in an order.
func Compare(a api.Set, b api.Set) int {
	if !May(a) || !May(b) {
		return 0
	}
	if a.Size != b.Size {
		return cmp.Compare(a.Size, b.Size)
	}
	// The greatest number in which two words differ tells which of them is the greater one.
	for i, w := range slices.Backward(a.Words) {
		if w != b.Words[i] {
			return cmp.Compare(w, b.Words[i])
		}
	}
	return 0
}
