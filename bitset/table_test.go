package bitset_test

import (
	"fmt"
	"math"
	"slices"
	"testing"

	"slope/api"
	"slope/bitset"
)

// full is a table of n sets that have all numbers.
func full(size, n int) api.Table {
	return table(size, slices.Repeat([]api.Set{filter(size, func(int) bool { return true })}, n)...)
}

// steps is the table over n in which each number leads to the next one, the last to none.
func steps(n int) api.Table {
	t := rowsOf(n, 0)
	for i := range n {
		t.Sets = append(t.Sets, filter(n, func(e int) bool { return e == i+1 }))
	}
	return t
}

// shapes are sizes and numbers of sets.
func shapes() [][2]int {
	return [][2]int{{0, 0}, {0, 1}, {1, 0}, {0, 65}, {65, 0}, {1, 1}, {5, 3}, {3, 5}, {64, 64}, {63, 65}, {65, 63}, {130, 7}, {7, 130}, {129, 129}}
}

// P3.10
func TestMakeTable(t *testing.T) {
	for _, size := range sizes() {
		l := samples(size)
		got, err := bitset.MakeTable(size, l...)
		wantTable(t, fmt.Sprint("MakeTable of ", size), got, err, table(size, l...))
		got, err = bitset.MakeTable(size)
		wantTable(t, fmt.Sprint("MakeTable of none of ", size), got, err, table(size))
	}
	most := full(70, 4096)
	got, err := bitset.MakeTable(70, most.Sets...)
	wantTable(t, "MakeTable of MaxTable sets", got, err, most)
}

// P3.10: the errors, in their order.
func TestMakeTableRefuses(t *testing.T) {
	more := rowsOf(3, 4097).Sets
	got, err := bitset.MakeTable(3, more...)
	wantTableErr(t, "MaxTable + 1", got, err, api.ErrArg)
	for _, size := range []int{-1, 4097, 2, math.MinInt, math.MaxInt} {
		got, err = bitset.MakeTable(size, more...)
		wantTableErr(t, "MaxTable + 1 of another universe", got, err, api.ErrUniverse)
	}
	more[4096] = set(4)
	got, err = bitset.MakeTable(3, more...)
	wantTableErr(t, "MaxTable + 1, the last of another universe", got, err, api.ErrUniverse)
	for i, s := range wrong() {
		more[4096] = s
		got, err = bitset.MakeTable(3, more...)
		wantTableErr(t, "MaxTable + 1, the last wrong", got, err, api.ErrSet)
		for _, size := range []int{s.Size, 3, -1, 4097} {
			got, err = bitset.MakeTable(size, set(3), set(4), s)
			wantTableErr(t, fmt.Sprint("MakeTable with wrong set ", i), got, err, api.ErrSet)
		}
	}
	for _, size := range []int{-1, 4097, math.MinInt, math.MaxInt} {
		got, err = bitset.MakeTable(size)
		wantTableErr(t, "MakeTable of none", got, err, api.ErrUniverse)
	}
}

// plainTurn looks at each place.
func plainTurn(t api.Table) api.Table {
	z := api.Table{Size: len(t.Sets)}
	for e := range t.Size {
		z.Sets = append(z.Sets, filter(z.Size, func(i int) bool { return in(t.Sets[i], e) }))
	}
	return z
}

// P3.10
func TestTurn(t *testing.T) {
	got, err := bitset.Turn(rows(3, []int{1}, []int{2}, nil))
	wantTable(t, "Turn", got, err, rows(3, nil, []int{0}, []int{1}))
	got, err = bitset.Turn(rows(2, []int{1}, []int{0, 1}, nil))
	wantTable(t, "Turn", got, err, rows(3, []int{1}, []int{0, 1}))
	d := dice(3)
	for _, shape := range shapes() {
		for _, chance := range []int{1, 2, 30} {
			tab := d.table(shape[0], shape[1], chance)
			got, err := bitset.Turn(tab)
			wantTable(t, fmt.Sprint("Turn of ", shape), got, err, plainTurn(tab))
		}
	}
	got, err = bitset.Turn(full(3, 4096))
	wantTable(t, "Turn of MaxTable sets", got, err, full(4096, 3))
	got, err = bitset.Turn(rowsOf(4096, 1))
	wantTable(t, "Turn of MaxSet numbers", got, err, rowsOf(1, 4096))
	for i, tab := range wrongTables() {
		got, err := bitset.Turn(tab)
		wantTableErr(t, fmt.Sprint("Turn of wrong table ", i), got, err, api.ErrSet)
	}
}

// P3.10
func TestFirsts(t *testing.T) {
	d := dice(4)
	near := func(size int) api.Table {
		tab := table(size, samples(size)...)
		for _, s := range samples(size) {
			for e := 0; e < size; e += 31 {
				s := set(size, numbers(s)...)
				s.Words[e>>6] ^= 1 << (e & 63)
				tab.Sets = append(tab.Sets, s)
			}
		}
		return tab
	}
	l := []api.Table{rows(2, []int{1}, nil, []int{1}, nil), d.table(3, 40, 2), d.table(1, 9, 2), rowsOf(0, 5), rowsOf(5, 0), near(64), near(65), near(200), full(4096, 20)}
	for i, tab := range l {
		want := make([]int, len(tab.Sets))
		for j := range want {
			want[j] = slices.IndexFunc(tab.Sets, func(s api.Set) bool { return same(s, tab.Sets[j]) })
		}
		if got, err := bitset.Firsts(tab); err != api.OK || !slices.Equal(got, want) {
			t.Errorf("Firsts of table %d: %v, error %d, want %v", i, got, err, want)
		}
	}
	for i, tab := range wrongTables() {
		if got, err := bitset.Firsts(tab); err != api.ErrSet || len(got) > 0 {
			t.Errorf("Firsts of wrong table %d: %v, error %d", i, got, err)
		}
	}
}

// plainProduct looks at each place.
func plainProduct(a, b api.Table) api.Table {
	z := api.Table{Size: b.Size}
	for _, s := range a.Sets {
		l := numbers(s)
		z.Sets = append(z.Sets, filter(b.Size, func(e int) bool {
			return slices.ContainsFunc(l, func(j int) bool { return in(b.Sets[j], e) })
		}))
	}
	return z
}

// P3.11
func TestProduct(t *testing.T) {
	tab := rows(3, []int{1}, []int{2}, nil)
	got, err := bitset.Product(tab, tab)
	wantTable(t, "Product", got, err, rows(3, []int{2}, nil, nil))
	d := dice(5)
	for _, shape := range shapes() {
		for _, size := range []int{0, 1, 64, 70} {
			for _, chance := range []int{1, 3, 20} {
				a, b := d.table(shape[0], shape[1], chance), d.table(size, shape[0], chance)
				got, err := bitset.Product(a, b)
				wantTable(t, fmt.Sprint("Product of ", shape, " and ", size), got, err, plainProduct(a, b))
			}
		}
	}
	got, err = bitset.Product(full(1, 4096), full(4096, 1))
	wantTable(t, "Product of the greatest size", got, err, full(4096, 4096))
}

// P3.11
func TestProductRefuses(t *testing.T) {
	for _, c := range [][2]api.Table{{rowsOf(3, 3), rowsOf(3, 2)}, {rowsOf(3, 3), rowsOf(3, 4)}, {rowsOf(0, 0), rowsOf(0, 1)}, {rowsOf(1, 0), rowsOf(0, 0)}, {rowsOf(4096, 1), rowsOf(1, 4095)}} {
		got, err := bitset.Product(c[0], c[1])
		wantTableErr(t, "Product of unlike tables", got, err, api.ErrUniverse)
	}
	for i, tab := range wrongTables() {
		for _, other := range []api.Table{rowsOf(0, 0), rowsOf(5, 2), rowsOf(1, max(0, min(tab.Size, 4096))), tab} {
			got, err := bitset.Product(tab, other)
			wantTableErr(t, fmt.Sprint("Product with wrong table first ", i), got, err, api.ErrSet)
			got, err = bitset.Product(other, tab)
			wantTableErr(t, fmt.Sprint("Product with wrong table second ", i), got, err, api.ErrSet)
		}
	}
}

// P3.11
func TestBoth(t *testing.T) {
	got, err := bitset.Both(rows(3, []int{1}, []int{2}, nil))
	wantTable(t, "Both", got, err, rows(3, []int{1}, []int{0, 2}, []int{1}))
	d := dice(6)
	for _, size := range []int{0, 1, 2, 5, 63, 64, 65, 130} {
		for _, chance := range []int{1, 2, 9, 100} {
			tab := d.table(size, size, chance)
			want := api.Table{Size: size}
			for i := range size {
				want.Sets = append(want.Sets, filter(size, func(e int) bool { return in(tab.Sets[i], e) || in(tab.Sets[e], i) }))
			}
			got, err := bitset.Both(tab)
			wantTable(t, fmt.Sprint("Both of ", size), got, err, want)
		}
	}
}

// plainClosure walks from each number.
func plainClosure(t api.Table) api.Table {
	z := api.Table{Size: t.Size}
	for i := range t.Size {
		seen := set(t.Size)
		work := numbers(t.Sets[i])
		for len(work) > 0 {
			e := work[len(work)-1]
			work = work[:len(work)-1]
			if !in(seen, e) {
				seen.Words[e>>6] |= 1 << (e & 63)
				work = append(work, numbers(t.Sets[e])...)
			}
		}
		z.Sets = append(z.Sets, seen)
	}
	return z
}

// P3.11
func TestClosure(t *testing.T) {
	got, err := bitset.Closure(rows(3, []int{1}, []int{2}, nil))
	wantTable(t, "Closure", got, err, rows(3, []int{1, 2}, []int{2}, nil))
	got, err = bitset.Closure(rows(3, []int{1}, []int{0}, []int{2}))
	wantTable(t, "Closure of rings", got, err, rows(3, []int{0, 1}, []int{0, 1}, []int{2}))
	d := dice(7)
	for _, size := range []int{0, 1, 2, 5, 63, 64, 65, 130} {
		for _, chance := range []int{1, 2, 9, size + 1, 2*size + 1} {
			tab := d.table(size, size, chance)
			got, err := bitset.Closure(tab)
			wantTable(t, fmt.Sprint("Closure of ", size), got, err, plainClosure(tab))
		}
		there, _ := bitset.Turn(steps(size))
		for _, tab := range []api.Table{steps(size), there} {
			got, err := bitset.Closure(tab)
			wantTable(t, fmt.Sprint("Closure of steps of ", size), got, err, plainClosure(tab))
		}
	}
}

// P3.11: the greatest table, in which one comes from each number to all above it.
func TestClosureOfTheGreatestTable(t *testing.T) {
	t.Parallel()
	got, err := bitset.Closure(steps(4096))
	want := rowsOf(4096, 0)
	for i := range 4096 {
		want.Sets = append(want.Sets, filter(4096, func(e int) bool { return e > i }))
	}
	wantTable(t, "Closure", got, err, want)
}

// P3.11
func TestSquareTablesAlone(t *testing.T) {
	for name, call := range map[string]func(api.Table) (api.Table, api.Errno){"Both": bitset.Both, "Closure": bitset.Closure} {
		for _, tab := range []api.Table{rowsOf(3, 2), rowsOf(3, 4), rowsOf(0, 1), rowsOf(1, 0), rowsOf(4096, 4095), rowsOf(4095, 4096)} {
			got, err := call(tab)
			wantTableErr(t, fmt.Sprintf("%s of %d sets of %d", name, len(tab.Sets), tab.Size), got, err, api.ErrUniverse)
		}
		for i, tab := range wrongTables() {
			got, err := call(tab)
			wantTableErr(t, fmt.Sprintf("%s of wrong table %d", name, i), got, err, api.ErrSet)
		}
	}
}
