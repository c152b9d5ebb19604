package bitset_test

import (
	"fmt"
	"slices"
	"testing"

	"slope/api"
	"slope/bitset"
)

// plainCover counts all anew for each pick.
func plainCover(t api.Table, s api.Set) ([]int, api.Errno) {
	left := numbers(s)
	var picks []int
	for len(left) > 0 {
		best, most := -1, 0
		for i, u := range t.Sets {
			n := 0
			for _, e := range left {
				if in(u, e) {
					n++
				}
			}
			if n > most {
				best, most = i, n
			}
		}
		if best < 0 {
			return nil, api.ErrNone
		}
		picks = append(picks, best)
		left = slices.DeleteFunc(left, func(e int) bool { return in(t.Sets[best], e) })
	}
	return picks, api.OK
}

// wantCover fails if it is not that list and that error.
func wantCover(t *testing.T, what string, tab api.Table, s api.Set, want []int, e api.Errno) {
	t.Helper()
	if got, err := bitset.Cover(tab, s); err != e || !slices.Equal(got, want) {
		t.Errorf("%s: %v, error %d, want %v, error %d", what, got, err, want, e)
	}
}

// P3.12
func TestCover(t *testing.T) {
	tab := rows(5, []int{0, 1}, []int{2, 3}, []int{1, 2, 3})
	wantCover(t, "the chapter's", tab, set(5, 0, 1, 2, 3), []int{2, 0}, api.OK)
	wantCover(t, "what none has", tab, set(5, 4), nil, api.ErrNone)
	wantCover(t, "what none has, beside others", tab, set(5, 0, 1, 2, 3, 4), nil, api.ErrNone)
	wantCover(t, "nothing", tab, set(5), nil, api.OK)
	wantCover(t, "nothing of no sets", rowsOf(5, 0), set(5), nil, api.OK)
	wantCover(t, "something of no sets", rowsOf(5, 0), set(5, 0), nil, api.ErrNone)
	wantCover(t, "universe 0", rowsOf(0, 3), set(0), nil, api.OK)
	wantCover(t, "like sets", rows(5, nil, []int{1}, []int{1}, []int{1}), set(5, 1), []int{1}, api.OK)
	wantCover(t, "of as many the lowest", rows(6, []int{0}, []int{1, 2}, []int{3, 4}, []int{2, 3}), set(6, 0, 1, 2, 3, 4), []int{1, 2, 0}, api.OK)
	wantCover(t, "what is not asked for doesn't count", rows(6, []int{0, 3, 4, 5}, []int{1, 2}, []int{0}), set(6, 0, 1, 2), []int{1, 0}, api.OK)
	wantCover(t, "what is covered doesn't count", rows(8, []int{0, 1, 2, 3}, []int{1, 2, 3, 4}, []int{4, 5}), set(8, 0, 1, 2, 3, 4, 5), []int{0, 2}, api.OK)
}

// P3.12
func TestCoverAtRandom(t *testing.T) {
	d := dice(8)
	for range 400 {
		size, n := d.next(140), d.next(40)
		tab, s := d.table(size, n, 2+d.next(20)), d.set(size, 1+d.next(5))
		if d.next(3) > 0 {
			rest, _ := bitset.Rest(s)
			tab.Sets = append(tab.Sets, rest)
			for e := 0; e < size; e += 3 {
				tab.Sets = append(tab.Sets, filter(size, func(f int) bool { return e <= f && f < e+3 }))
			}
		}
		want, err := plainCover(tab, s)
		wantCover(t, fmt.Sprintf("%d sets of %d", len(tab.Sets), size), tab, s, want, err)
	}
}

// P3.12: as many picks as there can be.
func TestCoverOfTheGreatestTable(t *testing.T) {
	t.Parallel()
	tab, want := rowsOf(4096, 0), []int{}
	for i := range 4096 {
		tab.Sets = append(tab.Sets, set(4096, 4095-i))
		want = append(want, i)
	}
	wantCover(t, "one by one", tab, filter(4096, func(int) bool { return true }), want, api.OK)
}

// P3.12: the errors, in their order.
func TestCoverRefuses(t *testing.T) {
	for i, tab := range wrongTables() {
		for _, s := range append(wrong(), set(0), set(5), set(5, 4)) {
			wantCover(t, fmt.Sprint("wrong table ", i), tab, s, nil, api.ErrSet)
		}
	}
	for i, s := range wrong() {
		for _, tab := range []api.Table{rowsOf(0, 0), rowsOf(5, 5), full(65, 2)} {
			wantCover(t, fmt.Sprint("wrong set ", i), tab, s, nil, api.ErrSet)
		}
	}
	wantCover(t, "unlike universes", rowsOf(5, 3), set(6, 1), nil, api.ErrUniverse)
	wantCover(t, "unlike universes", full(65, 3), set(64), nil, api.ErrUniverse)
	wantCover(t, "unlike universes", rowsOf(0, 0), set(1), nil, api.ErrUniverse)
}
