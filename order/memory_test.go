package order_test

import (
	"fmt"
	"slices"
	"testing"

	"slope/api"
)

// roomy is a copy of a list with three marks behind its end.
func roomy(l []int) []int { return append(slices.Clone(l), -77, -77, -77)[:len(l)] }

// all is a list with the room behind its end.
func all(l []int) []int { return l[:cap(l)] }

// dump is a text of all that can be reached from what is held, rooms too.
func dump(h held) string {
	return fmt.Sprint(h.kind, h.n, h.g.Rows, h.g.Width, len(h.g.Start), all(h.g.Start), len(h.g.Cols), all(h.g.Cols), len(h.list), all(h.list))
}

// each calls f with the address of each number in a list and in the room behind it.
func each(l []int, f func(at *int)) {
	for i := range all(l) {
		f(&all(l)[i])
	}
}

// DOC.md's P2: what is handed in stays as it was, its room too, and is not kept; answers are new memory, OrderScript's too.
func TestMemory(t *testing.T) {
	t.Parallel()
	d := dice(31)
	answered := map[string]int{}
	for i := range 1500 {
		s := d.small(pick(&d, 0, 1, 3, 12, 40))
		h := held{kind: allKinds()[i%5], g: s.pattern(), list: d.shuffled(len(s)), n: len(s)}
		if i%9 == 0 {
			h.list = d.nearly(h.list)
		}
		if i%13 == 0 {
			h.g = d.spoilt()
		}
		if i%7 > 0 {
			h.g.Start, h.g.Cols, h.list = roomy(h.g.Start), roomy(h.g.Cols), roomy(h.list)
		}
		checkMemory(t, i, h, answered)
	}
	for _, name := range []string{"Order1", "Order2", "Order3", "Order4", "Order5"} {
		if answered[name] < 150 {
			t.Errorf("%s was answered %d times", name, answered[name])
		}
	}
	for _, c := range allCalls() {
		if answered[c.name] < 1000 {
			t.Errorf("%s was answered %d times", c.name, answered[c.name])
		}
	}
}

// checkMemory makes all calls with one thing.
func checkMemory(t *testing.T, i int, h held, answered map[string]int) {
	t.Helper()
	before := dump(h)
	given := map[*int]struct{}{}
	for _, l := range [][]int{h.g.Start, h.g.Cols, h.list} {
		each(l, func(at *int) { given[at] = struct{}{} })
	}
	for _, c := range allCalls() {
		what := fmt.Sprint(c.name, " of ", i)
		a := c.do(h)
		want := a.text()
		each(a.list, func(at *int) {
			if _, met := given[at]; met {
				t.Fatalf("%s: an answer shares memory with an argument", what)
			}
			*at = -99
		})
		mine := map[*int]struct{}{}
		each(a.list, func(at *int) { mine[at] = struct{}{} })
		b := c.do(h)
		if b.text() != want {
			t.Fatalf("%s: another answer the second time: %s, %s", what, short(want), short(b.text()))
		}
		each(b.list, func(at *int) {
			if _, met := mine[at]; met {
				t.Fatalf("%s: an answer shares memory with an earlier one", what)
			}
		})
		if dump(h) != before {
			t.Fatalf("%s: an argument was changed", what)
		}
		if a.e == api.OK {
			answered[c.name]++
			answered[fmt.Sprint(c.name, int(h.kind))]++
		}
	}
}

// DOC.md's P3: nil and empty lists are the same.
func TestNilAndEmpty(t *testing.T) {
	for _, kind := range allKinds() {
		for n := range 3 {
			start := make([]int, n+1)
			a := held{kind: kind, g: api.Pattern{Rows: n, Width: n, Start: start}}
			b := held{kind: kind, g: api.Pattern{Rows: n, Width: n, Start: start, Cols: []int{}}, list: []int{}}
			for _, c := range allCalls() {
				if x, y := wantPlain(t, c, a), wantPlain(t, c, b); x.text() != y.text() || n == 0 && x.e != api.OK {
					t.Errorf("%s: %s, %s", c.name, x.text(), y.text())
				}
			}
		}
	}
	a, b := held{kind: 1}, held{kind: 1, g: api.Pattern{Start: []int{}, Cols: []int{}}, list: []int{}}
	for _, c := range allCalls()[:3] {
		if x, y := wantPlain(t, c, a), wantPlain(t, c, b); x.text() != y.text() || x.e != api.ErrGraph {
			t.Errorf("%s of nothing: %s, %s", c.name, x.text(), y.text())
		}
	}
}
