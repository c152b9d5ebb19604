package bitset_test

import (
	"fmt"
	"iter"
	"math"
	"slices"
	"testing"

	"slope/api"
	"slope/bitset"
)

// P3.3
func TestHas(t *testing.T) {
	for _, size := range sizes() {
		for _, s := range samples(size) {
			for e := -1; e <= size; e++ {
				if want := 0 <= e && e < size && in(s, e); bitset.Has(s, e) != want {
					t.Errorf("Has(%s, %d) is not %v", show(s), e, want)
				}
			}
			for _, e := range odd() {
				if bitset.Has(s, e) && (e < 0 || e >= size) {
					t.Errorf("Has(%s, %d)", show(s), e)
				}
			}
		}
	}
}

// P3.3
func TestElements(t *testing.T) {
	for _, size := range sizes() {
		for _, s := range samples(size) {
			want := numbers(s)
			if got := bitset.Elements(s); !slices.Equal(got, want) {
				t.Errorf("Elements(%s): %v", show(s), got)
			}
			if got := bitset.Count(s); got != len(want) {
				t.Errorf("Count(%s): %d", show(s), got)
			}
			if got := slices.Collect(bitset.All(s)); !slices.Equal(got, want) {
				t.Errorf("All(%s): %v", show(s), got)
			}
			slices.Reverse(want)
			if got := slices.Collect(bitset.Falling(s)); !slices.Equal(got, want) {
				t.Errorf("Falling(%s): %v", show(s), got)
			}
		}
	}
}

// P3.3: sets that may not be have nothing in them.
func TestElementsOfWrongSets(t *testing.T) {
	for i, s := range wrong() {
		if bitset.Count(s) != 0 || len(bitset.Elements(s)) != 0 {
			t.Errorf("wrong set %d has elements", i)
		}
		for range bitset.All(s) {
			t.Errorf("All of wrong set %d", i)
		}
		for range bitset.Falling(s) {
			t.Errorf("Falling of wrong set %d", i)
		}
		for _, e := range odd() {
			if bitset.Has(s, e) {
				t.Errorf("wrong set %d has %d", i, e)
			}
		}
	}
}

// ways are both range functions, each with the order in which it goes.
func ways() map[string]struct {
	call func(api.Set) iter.Seq[int]
	want []int
} {
	return map[string]struct {
		call func(api.Set) iter.Seq[int]
		want []int
	}{
		"All":     {bitset.All, []int{2, 3, 63, 64, 70, 129}},
		"Falling": {bitset.Falling, []int{129, 70, 64, 63, 3, 2}},
	}
}

// P3.3: a range may be stopped at any number and be gone through again from the beginning.
func TestRangesStopAndBeginAgain(t *testing.T) {
	for name, way := range ways() {
		seq := way.call(set(130, 2, 3, 63, 64, 70, 129))
		for n := range 6 {
			var l []int
			for e := range seq {
				l = append(l, e)
				if len(l) == n+1 {
					break
				}
			}
			if !slices.Equal(l, way.want[:n+1]) {
				t.Errorf("%s stopped behind %d: %v", name, n+1, l)
			}
		}
		calls := 0
		seq(func(int) bool { calls++; return false })
		if calls != 1 {
			t.Errorf("%s: it went on behind a stop, %d calls", name, calls)
		}
		if l := slices.Collect(seq); !slices.Equal(l, way.want) {
			t.Errorf("%s again: %v", name, l)
		}
	}
}

// P3.3: ranges of one value within one another.
func TestRangesWithinRanges(t *testing.T) {
	for name, way := range ways() {
		seq := way.call(set(130, 2, 3, 63, 64, 70, 129))
		var outer, inner []int
		for e := range seq {
			outer = append(outer, e)
			for f := range seq {
				if f == 64 {
					break
				}
			}
			inner = slices.Collect(seq)
		}
		if !slices.Equal(outer, way.want) || !slices.Equal(inner, way.want) {
			t.Errorf("%s: %v with %v within", name, outer, inner)
		}
		next, stop := iter.Pull(seq)
		next()
		other, _ := iter.Pull(seq)
		other()
		if e, _ := next(); e != way.want[1] {
			t.Errorf("%s by turns: %d", name, e)
		}
		stop()
		if e, ok := other(); !ok || e != way.want[1] {
			t.Errorf("%s, when another range has stopped: %d", name, e)
		}
	}
}

// P3.3: what is written behind the call is not seen, neither ahead of the range nor within it.
func TestRangesOfSetsWrittenOver(t *testing.T) {
	for name, way := range ways() {
		s := set(130, 2, 3, 63, 64, 70, 129)
		seq := way.call(s)
		s.Words[0], s.Words[1], s.Words[2] = 0, math.MaxUint64, 1
		if l := slices.Collect(seq); !slices.Equal(l, way.want) {
			t.Errorf("%s of a set that was written over: %v", name, l)
		}
		s = set(130, 2, 3, 63, 64, 70, 129)
		var l []int
		for e := range way.call(s) {
			l = append(l, e)
			s.Words[0], s.Words[1], s.Words[2] = math.MaxUint64, 0, 0
		}
		if !slices.Equal(l, way.want) {
			t.Errorf("%s of a set that is being written over: %v", name, l)
		}
	}
}

// P3.4
func TestPutAndDrop(t *testing.T) {
	for _, size := range sizes() {
		for _, s := range samples(size) {
			for _, e := range odd() {
				with, err := bitset.Put(s, e)
				without, err2 := bitset.Drop(s, e)
				if e < 0 || e >= size {
					wantErr(t, fmt.Sprintf("Put(%s, %d)", show(s), e), with, err, api.ErrElement)
					wantErr(t, fmt.Sprintf("Drop(%s, %d)", show(s), e), without, err2, api.ErrElement)
					continue
				}
				wantSet(t, fmt.Sprintf("Put(%s, %d)", show(s), e), with, err, filter(size, func(f int) bool { return f == e || in(s, f) }))
				wantSet(t, fmt.Sprintf("Drop(%s, %d)", show(s), e), without, err2, filter(size, func(f int) bool { return f != e && in(s, f) }))
			}
		}
	}
	for i, s := range wrong() {
		for _, e := range odd() {
			got, err := bitset.Put(s, e)
			wantErr(t, fmt.Sprint("Put of wrong set ", i), got, err, api.ErrSet)
			got, err = bitset.Drop(s, e)
			wantErr(t, fmt.Sprint("Drop of wrong set ", i), got, err, api.ErrSet)
		}
	}
}

// places are what Rank, Select, Next and Last say.
func places(s api.Set, e int) [4]int {
	return [4]int{bitset.Rank(s, e), bitset.Select(s, e), bitset.Next(s, e), bitset.Last(s, e)}
}

// plainPlaces are the same, from a list.
func plainPlaces(l []int, e int) [4]int {
	z := [4]int{0, -1, -1, -1}
	for i, f := range l {
		if f < e {
			z[0]++
		}
		if i == e {
			z[1] = f
		}
		if f >= e && z[2] < 0 {
			z[2] = f
		}
		if f <= e {
			z[3] = f
		}
	}
	return z
}

// P3.7
func TestPlaces(t *testing.T) {
	s := set(100, 2, 3, 70)
	got := []int{bitset.Rank(s, 3), bitset.Rank(s, 1000), bitset.Rank(s, -5), bitset.Select(s, 2), bitset.Select(s, 3),
		bitset.Next(s, 4), bitset.Next(s, 71), bitset.Last(s, 69), bitset.Last(s, 1)}
	if !slices.Equal(got, []int{1, 3, 0, 70, -1, 70, -1, 3, -1}) {
		t.Errorf("%v", got)
	}
	for _, size := range sizes() {
		for _, s := range samples(size) {
			l := numbers(s)
			for _, e := range append(odd(), l[:min(len(l), 150)]...) {
				if got, want := places(s, e), plainPlaces(l, e); got != want {
					t.Errorf("Rank, Select, Next, Last of %s, %d: %v, want %v", show(s), e, got, want)
				}
			}
		}
	}
}

// P3.7: every number of universes of some words.
func TestPlacesOfEachNumber(t *testing.T) {
	for _, size := range []int{1, 63, 64, 65, 130, 192} {
		for _, s := range samples(size) {
			l := numbers(s)
			for e := -2; e <= size+2; e++ {
				if got, want := places(s, e), plainPlaces(l, e); got != want {
					t.Errorf("Rank, Select, Next, Last of %s, %d: %v, want %v", show(s), e, got, want)
				}
			}
		}
	}
}

// P3.7
func TestPlacesOfWrongSets(t *testing.T) {
	for i, s := range wrong() {
		for _, e := range odd() {
			if got := places(s, e); got != [4]int{0, -1, -1, -1} {
				t.Errorf("wrong set %d, %d: %v", i, e, got)
			}
		}
	}
}
