package bitset_test

import (
	"fmt"
	"math"
	"slices"
	"testing"

	"slope/api"
	"slope/bitset"
)

// P3.1
func TestMay(t *testing.T) {
	for _, size := range sizes() {
		for _, s := range samples(size) {
			if !bitset.May(s) {
				t.Errorf("%s may not be", show(s))
			}
		}
	}
	if !bitset.May(api.Set{}) || !bitset.May(api.Set{Words: []uint64{}}) {
		t.Error("the set of universe 0 may not be")
	}
	for i, s := range wrong() {
		if bitset.May(s) {
			t.Errorf("wrong set %d may be", i)
		}
	}
}

// P3.1: each bit of the last word, in universes of all sizes of two words.
func TestMayBitByBit(t *testing.T) {
	for size := 1; size <= 128; size++ {
		for b := range 64 {
			s := set(size)
			last := len(s.Words) - 1
			s.Words[last] = 1 << b
			if bitset.May(s) != (64*last+b < size) {
				t.Errorf("size %d, bit %d of the last word: %v", size, b, bitset.May(s))
			}
		}
	}
}

// P3.1
func TestMayTable(t *testing.T) {
	for _, size := range sizes() {
		for _, tab := range []api.Table{{Size: size}, {Size: size, Sets: []api.Set{}}, table(size, samples(size)...), rowsOf(size, 4096)} {
			if !bitset.MayTable(tab) {
				t.Errorf("size %d, %d sets: it may not be", size, len(tab.Sets))
			}
		}
	}
	for i, tab := range wrongTables() {
		if bitset.MayTable(tab) {
			t.Errorf("wrong table %d may be", i)
		}
	}
	late := rowsOf(70, 4096)
	late.Sets[4095] = set(69)
	if bitset.MayTable(late) {
		t.Error("a table may be whose last set is of another universe")
	}
	late.Sets[4095] = api.Set{Size: 70, Words: []uint64{0, 1 << 6}}
	if bitset.MayTable(late) {
		t.Error("a table may be whose last set may not be")
	}
}

// P3.2
func TestMake(t *testing.T) {
	s, err := bitset.Make(5, 3, 0, 3)
	wantSet(t, "Make(5, 3, 0, 3)", s, err, api.Set{Size: 5, Words: []uint64{9}})
	s, err = bitset.Make(0)
	wantSet(t, "Make(0)", s, err, api.Set{})
	s, err = bitset.Make(64, 63)
	wantSet(t, "Make(64, 63)", s, err, api.Set{Size: 64, Words: []uint64{0x8000000000000000}})
	s, err = bitset.Make(65)
	wantSet(t, "Make(65)", s, err, api.Set{Size: 65, Words: []uint64{0, 0}})
	for _, size := range sizes() {
		for _, want := range samples(size) {
			l := numbers(want)
			slices.Reverse(l)
			s, err := bitset.Make(size, append(l, l...)...)
			wantSet(t, "Make", s, err, want)
		}
		for _, e := range odd() {
			s, err := bitset.Make(size, e)
			if 0 <= e && e < size {
				wantSet(t, "Make of one", s, err, set(size, e))
			} else {
				wantErr(t, fmt.Sprintf("Make(%d, %d)", size, e), s, err, api.ErrElement)
			}
		}
	}
	s, err = bitset.Make(5, 0, 1, 5, 2)
	wantErr(t, "Make(5, 0, 1, 5, 2)", s, err, api.ErrElement)
	s, err = bitset.Make(5, 0, -1)
	wantErr(t, "Make(5, 0, -1)", s, err, api.ErrElement)
}

// P3.2: the universe is looked at first.
func TestMakeUniverse(t *testing.T) {
	for _, size := range []int{-1, -64, 4097, 1 << 32, math.MinInt, math.MaxInt} {
		s, err := bitset.Make(size)
		wantErr(t, fmt.Sprint("Make of size ", size), s, err, api.ErrUniverse)
		s, err = bitset.Make(size, 0, -1, math.MaxInt)
		wantErr(t, fmt.Sprint("Make of size ", size), s, err, api.ErrUniverse)
		s, err = bitset.Range(size, 0, 3)
		wantErr(t, fmt.Sprint("Range of size ", size), s, err, api.ErrUniverse)
	}
}

// P3.2
func TestRange(t *testing.T) {
	for _, c := range []struct {
		low, high int
		want      api.Set
	}{{-7, 3, set(10, 0, 1, 2)}, {8, 1000, set(10, 8, 9)}, {3, 3, set(10)}, {4, 3, set(10)}, {9, 10, set(10, 9)}, {10, 11, set(10)}} {
		s, err := bitset.Range(10, c.low, c.high)
		wantSet(t, fmt.Sprintf("Range(10, %d, %d)", c.low, c.high), s, err, c.want)
	}
	for _, size := range sizes() {
		for _, low := range odd() {
			for _, high := range odd() {
				s, err := bitset.Range(size, low, high)
				want := filter(size, func(e int) bool { return low <= e && e < high })
				wantSet(t, fmt.Sprintf("Range(%d, %d, %d)", size, low, high), s, err, want)
			}
		}
	}
}
