package bitset_test

import (
	"fmt"
	"math"
	"slices"
	"testing"

	"slope/api"
	"slope/bitset"
)

// P3.5
func TestUnionAndInter(t *testing.T) {
	for _, size := range sizes() {
		l := samples(size)
		for n := range len(l) + 1 {
			for from := 0; from+n <= len(l); from++ {
				sets := l[from : from+n]
				any := filter(size, func(e int) bool { return slices.ContainsFunc(sets, func(s api.Set) bool { return in(s, e) }) })
				all := filter(size, func(e int) bool { return !slices.ContainsFunc(sets, func(s api.Set) bool { return !in(s, e) }) })
				u, err := bitset.Union(size, sets...)
				wantSet(t, fmt.Sprintf("Union of %d of %d", n, size), u, err, any)
				i, err := bitset.Inter(size, sets...)
				wantSet(t, fmt.Sprintf("Inter of %d of %d", n, size), i, err, all)
			}
		}
	}
}

// P3.5: of none.
func TestUnionAndInterOfNone(t *testing.T) {
	for _, size := range sizes() {
		u, err := bitset.Union(size)
		wantSet(t, "Union of none", u, err, set(size))
		i, err := bitset.Inter(size)
		wantSet(t, "Inter of none", i, err, filter(size, func(int) bool { return true }))
	}
	for _, size := range []int{-1, 4097, math.MinInt, math.MaxInt} {
		u, err := bitset.Union(size)
		wantErr(t, "Union of none", u, err, api.ErrUniverse)
		i, err := bitset.Inter(size)
		wantErr(t, "Inter of none", i, err, api.ErrUniverse)
	}
}

// P3.5: a set that may not be comes ahead of all universes.
func TestUnionAndInterRefuse(t *testing.T) {
	for name, call := range map[string]func(int, ...api.Set) (api.Set, api.Errno){"Union": bitset.Union, "Inter": bitset.Inter} {
		for i, s := range wrong() {
			for _, size := range []int{s.Size, 5, -1, 4097} {
				for _, sets := range [][]api.Set{{s}, {set(5), s}, {s, set(5)}, {set(4), set(5), s}} {
					got, err := call(size, sets...)
					wantErr(t, fmt.Sprintf("%s with wrong set %d", name, i), got, err, api.ErrSet)
				}
			}
		}
		for _, sets := range [][]api.Set{{set(4)}, {set(5), set(6)}, {set(4), set(5), set(5)}, {set(64)}} {
			for _, size := range []int{5, -1, 4097, 0} {
				got, err := call(size, sets...)
				wantErr(t, name+" of unlike universes", got, err, api.ErrUniverse)
			}
		}
	}
}

// pairs calls with all pairs of samples of the sizes.
func pairs(f func(a, b api.Set)) {
	for _, size := range sizes() {
		for _, a := range samples(size) {
			for _, b := range samples(size) {
				f(a, b)
			}
		}
	}
}

// P3.5
func TestMinusAndDiffer(t *testing.T) {
	pairs(func(a, b api.Set) {
		m, err := bitset.Minus(a, b)
		wantSet(t, "Minus", m, err, filter(a.Size, func(e int) bool { return in(a, e) && !in(b, e) }))
		d, err := bitset.Differ(a, b)
		wantSet(t, "Differ", d, err, filter(a.Size, func(e int) bool { return in(a, e) != in(b, e) }))
	})
	for name, call := range map[string]func(a, b api.Set) (api.Set, api.Errno){"Minus": bitset.Minus, "Differ": bitset.Differ} {
		for _, s := range wrong() {
			for _, other := range append(wrong(), set(0), set(5), set(s.Size&4095)) {
				got, err := call(s, other)
				wantErr(t, name, got, err, api.ErrSet)
				got, err = call(other, s)
				wantErr(t, name, got, err, api.ErrSet)
			}
		}
		for _, c := range [][2]api.Set{{set(4), set(5)}, {set(65), set(64)}, {set(0), set(1)}, {set(4096), set(4095)}} {
			got, err := call(c[0], c[1])
			wantErr(t, name, got, err, api.ErrUniverse)
			got, err = call(c[1], c[0])
			wantErr(t, name, got, err, api.ErrUniverse)
		}
	}
}

// P3.5
func TestRest(t *testing.T) {
	for _, size := range sizes() {
		for _, s := range samples(size) {
			got, err := bitset.Rest(s)
			wantSet(t, "Rest", got, err, filter(size, func(e int) bool { return !in(s, e) }))
		}
	}
	for _, s := range wrong() {
		got, err := bitset.Rest(s)
		wantErr(t, "Rest", got, err, api.ErrSet)
	}
}

// told are what Equal, Subset and Disjoint say.
func told(a, b api.Set) [3]bool {
	return [3]bool{bitset.Equal(a, b), bitset.Subset(a, b), bitset.Disjoint(a, b)}
}

// P3.6
func TestEqualSubsetDisjoint(t *testing.T) {
	pairs(func(a, b api.Set) {
		want := [3]bool{true, true, true}
		for e := range a.Size {
			want[0] = want[0] && in(a, e) == in(b, e)
			want[1] = want[1] && (!in(a, e) || in(b, e))
			want[2] = want[2] && !(in(a, e) && in(b, e))
		}
		if got := told(a, b); got != want {
			t.Errorf("%s, %s: %v, want %v", show(a), show(b), got, want)
		}
	})
	if told(set(8, 1, 2), set(8, 1, 2, 3)) != [3]bool{false, true, false} || told(set(8, 1, 2, 3), set(8, 1, 2)) != [3]bool{} {
		t.Error("Subset")
	}
}

// P3.6: false, if one may not be or the universes are unlike.
func TestEqualSubsetDisjointOfWrongSets(t *testing.T) {
	none := [3]bool{}
	for _, s := range wrong() {
		for _, other := range append(wrong(), s, set(0), set(5), set(64)) {
			if told(s, other) != none || told(other, s) != none {
				t.Errorf("%s, %s", show(s), show(other))
			}
		}
	}
	for _, c := range [][2]api.Set{{set(4), set(5)}, {set(65), set(64)}, {set(0), set(1)}, {set(8, 2), set(9, 2)}} {
		if told(c[0], c[1]) != none || told(c[1], c[0]) != none {
			t.Errorf("%s, %s", show(c[0]), show(c[1]))
		}
	}
}

// plainCompare goes from the greatest number down.
func plainCompare(a, b api.Set) int {
	for e := a.Size - 1; e >= 0; e-- {
		if in(a, e) && !in(b, e) {
			return 1
		}
		if in(b, e) && !in(a, e) {
			return -1
		}
	}
	return 0
}

// P3.6
func TestCompare(t *testing.T) {
	pairs(func(a, b api.Set) {
		if got, want := bitset.Compare(a, b), plainCompare(a, b); got != want {
			t.Errorf("Compare(%s, %s): %d", show(a), show(b), got)
		}
	})
	for _, c := range []struct {
		a, b api.Set
		want int
	}{
		{set(8, 0, 5), set(8, 1, 2), 1}, {set(8, 5), set(8, 0, 5), -1}, {set(8, 7), set(9), -1}, {set(9), set(8, 7), 1},
		{set(0), set(1), -1}, {set(4096), set(4095), 1}, {set(128, 0, 64), set(128, 63, 64), -1}, {set(128, 64), set(128, 63), 1},
		{set(64, 63), set(64, 0, 1, 62), 1}, {set(64, 62), set(64, 63), -1},
	} {
		if got := bitset.Compare(c.a, c.b); got != c.want {
			t.Errorf("Compare(%s, %s): %d", show(c.a), show(c.b), got)
		}
	}
	for _, s := range wrong() {
		for _, other := range append(wrong(), set(0), set(5), set(64, 63), set(4096, 4095)) {
			if bitset.Compare(s, other) != 0 || bitset.Compare(other, s) != 0 {
				t.Errorf("Compare(%s, %s) is not 0", show(s), show(other))
			}
		}
	}
}
