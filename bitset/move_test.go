package bitset_test

import (
	"fmt"
	"math"
	"slices"
	"testing"

	"slope/api"
	"slope/bitset"
)

// plainShift goes number by number; a way that is longer than any universe leaves nothing, and would wrap.
func plainShift(s api.Set, n int) api.Set {
	return filter(s.Size, func(e int) bool {
		if n < -4096 || n > 4096 {
			return false
		}
		return 0 <= e-n && e-n < s.Size && in(s, e-n)
	})
}

// P3.8
func TestShift(t *testing.T) {
	for _, c := range []struct {
		n    int
		want api.Set
	}{{3, set(64, 3, 63)}, {4, set(64, 4)}, {-1, set(64, 59)}, {0, set(64, 0, 60)}, {63, set(64, 63)}, {64, set(64)}, {-60, set(64, 0)}, {-61, set(64)}} {
		s, err := bitset.Shift(set(64, 0, 60), c.n)
		wantSet(t, fmt.Sprint("Shift by ", c.n), s, err, c.want)
	}
	for _, size := range sizes() {
		ns := append(odd(), size, -size, size-1, 1-size, size+1, -size-1, 192, -192, 64*(size/64), -64*(size/64))
		for _, s := range samples(size) {
			for _, n := range ns {
				got, err := bitset.Shift(s, n)
				wantSet(t, fmt.Sprintf("Shift of %s by %d", show(s), n), got, err, plainShift(s, n))
			}
		}
	}
}

// P3.8: all ways within some words.
func TestShiftByEach(t *testing.T) {
	for _, size := range []int{65, 192, 200} {
		s := samples(size)[8]
		for n := -size - 1; n <= size+1; n++ {
			got, err := bitset.Shift(s, n)
			wantSet(t, fmt.Sprintf("Shift of %s by %d", show(s), n), got, err, plainShift(s, n))
		}
	}
}

// P3.8
func TestShiftRefuses(t *testing.T) {
	for _, s := range wrong() {
		for _, n := range odd() {
			got, err := bitset.Shift(s, n)
			wantErr(t, "Shift", got, err, api.ErrSet)
		}
	}
}

// P3.8
func TestMove(t *testing.T) {
	s, err := bitset.Move(set(3, 0, 1, 2), 2, []int{1, -1, 1})
	wantSet(t, "Move by (1, -1, 1)", s, err, set(2, 1))
	s, err = bitset.Move(set(0), 4096, nil)
	wantSet(t, "Move of nothing", s, err, set(4096))
	s, err = bitset.Move(set(3, 0, 2), 0, []int{-1, -1, -1})
	wantSet(t, "Move to nothing", s, err, set(0))
	d := dice(9)
	for _, from := range sizes() {
		for _, size := range sizes() {
			to := make([]int, from)
			for i := range to {
				to[i] = d.next(size+1) - 1
			}
			if from > 0 {
				to[0] = size - 1
			}
			for _, s := range samples(from) {
				want := set(size)
				for _, e := range numbers(s) {
					if to[e] >= 0 {
						want.Words[to[e]>>6] |= 1 << (to[e] & 63)
					}
				}
				got, err := bitset.Move(s, size, to)
				wantSet(t, fmt.Sprintf("Move of %s to %d", show(s), size), got, err, want)
			}
		}
	}
}

// P3.8: the errors, in their order.
func TestMoveRefuses(t *testing.T) {
	for _, c := range []struct {
		s    api.Set
		size int
		to   []int
		want api.Errno
	}{
		{set(3, 0, 1, 2), 2, []int{0, 0}, api.ErrArg}, {set(3), 2, []int{0, 0, 1, 1}, api.ErrArg}, {set(3), 2, nil, api.ErrArg}, {set(0), 2, []int{0}, api.ErrArg},
		{set(3, 0, 1, 2), 2, []int{0, 0, 2}, api.ErrElement}, {set(3, 0), 2, []int{0, 0, 2}, api.ErrElement}, {set(3), 2, []int{0, -2, 1}, api.ErrElement},
		{set(1), 0, []int{0}, api.ErrElement}, {set(1), 4096, []int{4096}, api.ErrElement}, {set(1), 4096, []int{math.MaxInt}, api.ErrElement}, {set(1), 4096, []int{math.MinInt}, api.ErrElement},
		{set(3), -1, []int{0, 0, 0}, api.ErrUniverse}, {set(3), 4097, []int{0, 0, 0}, api.ErrUniverse}, {set(3), math.MinInt, nil, api.ErrUniverse}, {set(3), math.MaxInt, []int{-2}, api.ErrUniverse},
		{set(3), 2, []int{9, 9}, api.ErrArg}, {set(3), -1, []int{-1, -1, -1}, api.ErrUniverse},
	} {
		got, err := bitset.Move(c.s, c.size, c.to)
		wantErr(t, fmt.Sprintf("Move of %s to %d by %v", show(c.s), c.size, c.to), got, err, c.want)
	}
	for _, s := range wrong() {
		for _, size := range []int{0, 5, -1, 4097} {
			for _, to := range [][]int{nil, {0, 0, 0, 0, 0}, {-2}, slices.Repeat([]int{9999}, 65)} {
				got, err := bitset.Move(s, size, to)
				wantErr(t, "Move of a wrong set", got, err, api.ErrSet)
			}
		}
	}
}
