package colour_test

import (
	"fmt"
	"slices"
	"testing"

	"slope/api"
)

// roomy is a copy of a list with three marks behind its end.
func roomy(l []int) []int { return append(slices.Clone(l), -77, -77, -77)[:len(l)] }

// all is a list with the room behind its end.
func all(l []int) []int { return l[:cap(l)] }

// lists are those of what is held.
func (h held) lists() [][]int { return [][]int{h.p.Start, h.p.Cols, h.list, h.colours} }

// dump is a text of all that can be reached from what is held, rooms too.
func (h held) dump() string {
	s := fmt.Sprint(h.kind, h.p.Rows, h.p.Width)
	for _, l := range h.lists() {
		s += fmt.Sprint(len(l), all(l))
	}
	return s
}

// every is all lists of an answer; lists of lists with their room.
func (a answer) every() [][]int {
	z := [][]int{a.p.Start, a.p.Cols, a.list}
	return append(z, a.lists[:cap(a.lists)]...)
}

// addresses notes where each number of some lists stands, rooms too, and fails if one is noted already.
func addresses(t *testing.T, what string, noted map[*int]string, lists [][]int) {
	t.Helper()
	for _, l := range lists {
		for i := range all(l) {
			at := &all(l)[i]
			if by, met := noted[at]; met {
				t.Fatalf("%s: memory is shared with %s", what, by)
			}
			noted[at] = what
		}
	}
}

// DOC.md's P2: what is handed in stays as it was, its room too, and is not kept; answers are new memory, and no two lists of one share any.
func TestMemory(t *testing.T) {
	t.Parallel()
	d := dice(31)
	answered := map[string]int{}
	for i := range 1500 {
		kind := allKinds()[i%5]
		s := d.small(kind, pick(&d, 0, 1, 3, 8, 20))
		n := s.things(kind)
		h := held{kind: kind, p: s.pattern(), list: d.shuffled(n), colours: d.someColours(n, 4)}
		if i%3 == 0 && n > 0 {
			// few classes, whose lists grow
			h.colours = make([]int, n)
			for v := range h.colours {
				h.colours[v] = d.next(3)
			}
		}
		if i%9 == 0 {
			h.list, h.colours = d.nearly(h.list, n), d.nearly(h.colours, 5)
		}
		if i%13 == 0 {
			h.p = d.spoilt()
		}
		if i%7 > 0 {
			h.p.Start, h.p.Cols, h.list, h.colours = roomy(h.p.Start), roomy(h.p.Cols), roomy(h.list), roomy(h.colours)
		}
		checkMemory(t, i, h, answered)
	}
	for _, c := range allCalls() {
		if answered[c.name] < 300 {
			t.Errorf("%s was answered %d times", c.name, answered[c.name])
		}
		for _, kind := range allKinds() {
			if name := fmt.Sprint(c.name, int(kind)); answered[name] < 50 {
				t.Errorf("%s was answered %d times", name, answered[name])
			}
		}
	}
}

// checkMemory makes all calls with one thing.
func checkMemory(t *testing.T, i int, h held, answered map[string]int) {
	t.Helper()
	before := h.dump()
	for _, c := range allCalls() {
		what := fmt.Sprint(c.name, " of ", i)
		noted := map[*int]string{}
		addresses(t, what+", given", noted, h.lists())
		a := c.do(h)
		want := a.text()
		addresses(t, what+", answered", noted, a.every())
		for _, l := range a.every() {
			for k := range all(l) {
				all(l)[k] = -99
			}
		}
		b := c.do(h)
		if b.text() != want {
			t.Fatalf("%s: another answer the second time: %s, %s", what, short(want), short(b.text()))
		}
		addresses(t, what+", answered again", noted, b.every())
		if h.dump() != before {
			t.Fatalf("%s: an argument was changed", what)
		}
		if a.e == api.OK || a.e == api.ErrColouring {
			answered[c.name]++
			answered[fmt.Sprint(c.name, int(h.kind))]++
		}
	}
}

// DOC.md's P3: nil and empty lists are the same.
func TestNilAndEmpty(t *testing.T) {
	for _, kind := range allKinds() {
		for n := range 3 {
			start := make([]int, n+1)
			a := held{kind: kind, p: api.Pattern{Rows: n, Width: n, Start: start}}
			b := held{kind: kind, p: api.Pattern{Rows: n, Width: n, Start: start, Cols: []int{}}, list: []int{}, colours: []int{}}
			for _, c := range allCalls() {
				if x, y := wantPlain(t, c, a), wantPlain(t, c, b); x.text() != y.text() || n == 0 && x.e != api.OK {
					t.Errorf("%s: %s, %s", c.name, x.text(), y.text())
				}
			}
		}
		a, b := held{kind: kind}, held{kind: kind, p: api.Pattern{Start: []int{}, Cols: []int{}}, list: []int{}, colours: []int{}}
		for _, c := range allCalls()[:9] {
			if x, y := wantPlain(t, c, a), wantPlain(t, c, b); x.text() != y.text() || x.e != api.ErrPattern {
				t.Errorf("%s of nothing: %s, %s", c.name, x.text(), y.text())
			}
		}
	}
}
