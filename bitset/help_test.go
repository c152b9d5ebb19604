package bitset_test

import (
	"math"
	"slices"
	"strconv"
	"testing"

	"slope/api"
)

// sizes are universes at the edges of words and of the limit.
func sizes() []int { return []int{0, 1, 2, 5, 63, 64, 65, 127, 128, 129, 1000, 4095, 4096} }

// odd are ints beside which sums wrap, and those near the edges of words.
func odd() []int {
	return []int{
		math.MinInt, math.MinInt + 1, math.MinInt + 63, -1 << 32, -4097, -4096, -4095, -129, -128, -127, -65, -64, -63, -2, -1, 0,
		1, 2, 3, 5, 62, 63, 64, 65, 126, 127, 128, 129, 999, 1000, 4094, 4095, 4096, 4097, 1 << 32, math.MaxInt - 63, math.MaxInt - 1, math.MaxInt,
	}
}

// set packs elements by hand.
func set(size int, elements ...int) api.Set {
	s := api.Set{Size: size, Words: make([]uint64, (size+63)/64)}
	for _, e := range elements {
		s.Words[e>>6] |= 1 << (e & 63)
	}
	return s
}

// filter is the set of the numbers for which it holds.
func filter(size int, holds func(e int) bool) api.Set {
	var l []int
	for e := range size {
		if holds(e) {
			l = append(l, e)
		}
	}
	return set(size, l...)
}

// in reads one bit of a set.
func in(s api.Set, e int) bool { return s.Words[e>>6]>>(e&63)&1 == 1 }

// numbers are a set's elements, read bit by bit.
func numbers(s api.Set) []int {
	var l []int
	for e := range s.Size {
		if in(s, e) {
			l = append(l, e)
		}
	}
	return l
}

// table makes a table by hand.
func table(size int, sets ...api.Set) api.Table { return api.Table{Size: size, Sets: sets} }

// rows makes a table of lists of elements.
func rows(size int, lists ...[]int) api.Table {
	t := api.Table{Size: size}
	for _, l := range lists {
		t.Sets = append(t.Sets, set(size, l...))
	}
	return t
}

// dice throws numbers that are the same in every run.
type dice uint64

func (d *dice) next(n int) int {
	*d = *d*6364136223846793005 + 1442695040888963407
	return int(uint32(*d>>32)) % n
}

// set is a set that has each number with the chance of one in n.
func (d *dice) set(size, n int) api.Set {
	return filter(size, func(int) bool { return d.next(n) == 0 })
}

// table is a table of n such sets.
func (d *dice) table(size, n, chance int) api.Table {
	t := api.Table{Size: size}
	for range n {
		t.Sets = append(t.Sets, d.set(size, chance))
	}
	return t
}

// samples are sets of a universe: none, all, one, pieces, thin and thick.
func samples(size int) []api.Set {
	d := dice(size)
	l := []api.Set{
		filter(size, func(int) bool { return false }), filter(size, func(int) bool { return true }),
		filter(size, func(e int) bool { return e == 0 }), filter(size, func(e int) bool { return e == size-1 }),
		filter(size, func(e int) bool { return e%2 == 0 }), filter(size, func(e int) bool { return e%64 == 63 }),
		filter(size, func(e int) bool { return e/64%2 == 1 }), filter(size, func(e int) bool { return e > size/3 && e < size/2 }),
	}
	return append(l, d.set(size, 2), d.set(size, 2), d.set(size, 40))
}

// wrong are sets that may not be.
func wrong() []api.Set {
	words := func(n int) []uint64 { return make([]uint64, n) }
	return []api.Set{
		{Size: 5, Words: []uint64{32}}, {Size: 5, Words: []uint64{1 << 63}}, {Size: 5}, {Size: 5, Words: []uint64{1, 0}},
		{Words: words(1)}, {Words: []uint64{1}}, {Size: 1}, {Size: 1, Words: []uint64{2}}, {Size: 1, Words: words(2)},
		{Size: 63, Words: []uint64{1 << 63}}, {Size: 64}, {Size: 64, Words: words(2)}, {Size: 65, Words: words(1)},
		{Size: 65, Words: []uint64{0, 2}}, {Size: 65, Words: []uint64{0, 0, 0}}, {Size: 128, Words: words(3)},
		{Size: -1}, {Size: -1, Words: words(1)}, {Size: -62}, {Size: -64}, {Size: -65, Words: []uint64{7}},
		{Size: math.MinInt}, {Size: math.MinInt, Words: words(1)}, {Size: math.MaxInt}, {Size: math.MaxInt, Words: words(1)},
		{Size: 4096, Words: words(63)}, {Size: 4096, Words: words(65)}, {Size: 4097, Words: words(65)}, {Size: 4097, Words: words(64)},
		{Size: 4095, Words: append(words(63), 1<<63)}, {Size: 1 << 20, Words: words(1 << 14)},
	}
}

// wrongTables are tables that may not be.
func wrongTables() []api.Table {
	l := []api.Table{
		{Size: -1}, {Size: 4097}, {Size: math.MinInt}, {Size: math.MaxInt},
		rowsOf(0, 4097), rowsOf(3, 4097), rowsOf(4096, 4097),
		table(3, set(4)), table(3, set(3), set(2)), table(0, set(0), set(1)), table(4096, set(4096), set(4095), set(4096)), table(65, set(128)),
	}
	for _, s := range wrong() {
		l = append(l, table(s.Size, s), table(5, set(5), s), table(5, s, set(5, 1)))
	}
	return l
}

// rowsOf is a table of n empty sets.
func rowsOf(size, n int) api.Table { return table(size, slices.Repeat([]api.Set{set(size)}, n)...) }

// same tells whether two sets are written in the same way.
func same(a, b api.Set) bool { return a.Size == b.Size && slices.Equal(a.Words, b.Words) }

// sameTable tells whether two tables are written in the same way.
func sameTable(a, b api.Table) bool {
	return a.Size == b.Size && slices.EqualFunc(a.Sets, b.Sets, same)
}

// show is a set for a message.
func show(s api.Set) string {
	if s.Size < 0 || len(s.Words) != (s.Size+63)/64 {
		return "size " + strconv.Itoa(s.Size) + ", words " + strconv.Itoa(len(s.Words))
	}
	l := numbers(s)
	text := "of " + strconv.Itoa(s.Size) + ":"
	for _, e := range l[:min(len(l), 20)] {
		text += " " + strconv.Itoa(e)
	}
	return text + " (" + strconv.Itoa(len(l)) + ")"
}

// wantSet fails if it is not that set.
func wantSet(t *testing.T, what string, got api.Set, err api.Errno, want api.Set) {
	t.Helper()
	if err != api.OK || !same(got, want) {
		t.Errorf("%s: %s, error %d, want %s", what, show(got), err, show(want))
	}
}

// wantErr fails if it is not that error with a zero value beside it.
func wantErr(t *testing.T, what string, got api.Set, err, want api.Errno) {
	t.Helper()
	if err != want || !same(got, api.Set{}) {
		t.Errorf("%s: %s, error %d, want error %d alone", what, show(got), err, want)
	}
}

// wantTable fails if it is not that table.
func wantTable(t *testing.T, what string, got api.Table, err api.Errno, want api.Table) {
	t.Helper()
	if err != api.OK || !sameTable(got, want) {
		t.Errorf("%s: size %d, %d sets, error %d, want size %d, %d sets, or other elements", what, got.Size, len(got.Sets), err, want.Size, len(want.Sets))
	}
}

// wantTableErr fails if it is not that error with a zero value beside it.
func wantTableErr(t *testing.T, what string, got api.Table, err, want api.Errno) {
	t.Helper()
	if err != want || !sameTable(got, api.Table{}) {
		t.Errorf("%s: size %d, %d sets, error %d, want error %d alone", what, got.Size, len(got.Sets), err, want)
	}
}
