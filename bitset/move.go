package bitset

import "slope/api"

// wordAt is word i; beyond both ends there are no numbers.
func wordAt(words []uint64, i int) uint64 {
	if i < 0 || i >= len(words) {
		return 0
	}
	return words[i]
}

// window is the word that begins at bit p. It may be below 0, where a shift and a mask round down, as a quotient wouldn't.
func window(words []uint64, p int) uint64 {
	i, by := p>>wordShift, p&(wordBits-1)
	return wordAt(words, i)>>by | wordAt(words, i+1)<<(wordBits-by)
}

// Shift moves all elements by n.
func Shift(s api.Set, n int) (api.Set, api.Errno) {
	if !May(s) {
		return api.Set{}, api.ErrSet
	}
	// By its whole size or more nothing is left, and no place can wrap.
	n = max(-s.Size, min(n, s.Size))
	z := blank(s.Size)
	for i := range z.Words {
		z.Words[i] = window(s.Words, i*wordBits-n)
	}
	trim(z)
	return z, api.OK
}

// Move gives the set of to[e] of all elements e.
func Move(s api.Set, size int, to []int) (api.Set, api.Errno) {
	switch {
	case !May(s):
		return api.Set{}, api.ErrSet
	case !fits(size):
		return api.Set{}, api.ErrUniverse
	case len(to) != s.Size:
		return api.Set{}, api.ErrArg
	}
	for _, e := range to {
		if e < -1 || e >= size {
			return api.Set{}, api.ErrElement
		}
	}
	z := blank(size)
	for e := range rising(s.Words) {
		if to[e] >= 0 {
			put(z, to[e])
		}
	}
	return z, api.OK
}
