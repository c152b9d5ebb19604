package bitset

import "slope/api"

// blankTable is n empty sets of one universe.
func blankTable(size, n int) api.Table {
	z := api.Table{Size: size, Sets: make([]api.Set, n)}
	for i := range z.Sets {
		z.Sets[i] = blank(size)
	}
	return z
}

// unite puts the numbers of words into z. Tables unite so many that no function value should stand between.
func unite(z, words []uint64) {
	z = z[:len(words)]
	for i, w := range words {
		z[i] |= w
	}
}

// copyTable is a table of copies of sets of one universe.
func copyTable(size int, sets []api.Set) api.Table {
	z := api.Table{Size: size, Sets: make([]api.Set, len(sets))}
	for i, s := range sets {
		z.Sets[i] = clone(s)
	}
	return z
}

// MakeTable makes a table of sets.
func MakeTable(size int, sets ...api.Set) (api.Table, api.Errno) {
	if err := alike(size, sets); err != api.OK {
		return api.Table{}, err
	}
	if len(sets) > api.MaxTable {
		return api.Table{}, api.ErrArg
	}
	return copyTable(size, sets), api.OK
}

// Turn gives the table the other way round.
func Turn(t api.Table) (api.Table, api.Errno) {
	if !MayTable(t) {
		return api.Table{}, api.ErrSet
	}
	z := blankTable(len(t.Sets), t.Size)
	for i, s := range t.Sets {
		for e := range rising(s.Words) {
			put(z.Sets[e], i)
		}
	}
	return z, api.OK
}

// key is a text that only sets with the same words have.
func key(words []uint64) string {
	b := make([]byte, 0, len(words)*wordBits/8)
	for _, w := range words {
		for by := 0; by < wordBits; by += 8 {
			b = append(b, byte(w>>by))
		}
	}
	return string(b)
}

// Firsts gives of each set the number of the first set equal to it.
func Firsts(t api.Table) ([]int, api.Errno) {
	if !MayTable(t) {
		return nil, api.ErrSet
	}
	seen := map[string]int{}
	l := make([]int, len(t.Sets))
	for i, s := range t.Sets {
		k := key(s.Words)
		first, ok := seen[k]
		if !ok {
			first = i
			seen[k] = i
		}
		l[i] = first
	}
	return l, api.OK
}

// Product gives the unions of b's sets by a's sets.
func Product(a api.Table, b api.Table) (api.Table, api.Errno) {
	if !MayTable(a) || !MayTable(b) {
		return api.Table{}, api.ErrSet
	}
	if a.Size != len(b.Sets) {
		return api.Table{}, api.ErrUniverse
	}
	z := blankTable(b.Size, len(a.Sets))
	for i, s := range a.Sets {
		for e := range rising(s.Words) {
			unite(z.Sets[i].Words, b.Sets[e].Words)
		}
	}
	return z, api.OK
}

// square looks whether a table may be and has as many sets as its universe has numbers.
func square(t api.Table) api.Errno {
	if !MayTable(t) {
		return api.ErrSet
	}
	if len(t.Sets) != t.Size {
		return api.ErrUniverse
	}
	return api.OK
}

// Both gives the table with each place both ways round.
func Both(t api.Table) (api.Table, api.Errno) {
	if err := square(t); err != api.OK {
		return api.Table{}, err
	}
	z, err := Turn(t)
	for i, s := range t.Sets {
		unite(z.Sets[i].Words, s.Words)
	}
	return z, err
}

// Closure gives what one comes to by one step or more.
func Closure(t api.Table) (api.Table, api.Errno) {
	if err := square(t); err != api.OK {
		return api.Table{}, err
	}
	z := copyTable(t.Size, t.Sets)
	// Behind round k the sets know all ways that go over no numbers but those up to k.
	for k, through := range z.Sets {
		for _, s := range z.Sets {
			if s.Words[k/wordBits]&bit(k) != 0 {
				unite(s.Words, through.Words)
			}
		}
	}
	return z, api.OK
}
