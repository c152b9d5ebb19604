package sparse_test

import (
	"fmt"
	"slices"
	"strings"
	"testing"

	"slope/api"
	"slope/sparse"
)

// roomy is a copy of a list with three marks behind its end.
func roomy[T any](l []T, mark T) []T { return append(slices.Clone(l), mark, mark, mark)[:len(l)] }

// roomyRat is a copy of a number whose lists have such room.
func roomyRat(r api.Rat) api.Rat {
	return api.Rat{Neg: r.Neg, Num: roomy(r.Num, 0xa5a5a5a5), Den: roomy(r.Den, 0xa5a5a5a5)}
}

// roomyRats are numbers with such room, within and behind.
func roomyRats(l []api.Rat) []api.Rat {
	var z []api.Rat
	for _, r := range l {
		z = append(z, roomyRat(r))
	}
	return roomy(z, roomyRat(num("-7/9")))
}

// roomyPattern is a copy of a pattern whose lists have such room.
func roomyPattern(p api.Pattern) api.Pattern {
	return api.Pattern{Rows: p.Rows, Width: p.Width, Start: roomy(p.Start, -9), Cols: roomy(p.Cols, -8)}
}

// roomyMatrix is a copy of a matrix whose lists have such room.
func roomyMatrix(m api.Matrix) api.Matrix {
	return api.Matrix{P: roomyPattern(m.P), Vals: roomyRats(m.Vals)}
}

// roomy is a copy all of whose lists have such room.
func (h held) roomy() held {
	z := h
	z.p, z.next = roomyPattern(h.p), roomyPattern(h.next)
	z.m, z.beside, z.own = roomyMatrix(h.m), roomyMatrix(h.beside), roomyMatrix(h.own)
	z.rs, z.cs, z.byRows, z.byCols = roomy(h.rs, -7), roomy(h.cs, -6), roomy(h.byRows, -5), roomy(h.byCols, -4)
	z.vals, z.list, z.dense = roomyRats(h.vals), nil, nil
	for _, p := range h.list {
		z.list = append(z.list, roomyPattern(p))
	}
	z.list = roomy(z.list, roomyPattern(pat(2, 2, "0,0 1,1")))
	for _, l := range h.dense {
		z.dense = append(z.dense, roomyRats(l))
	}
	z.dense = roomy(z.dense, roomyRats(nums("1 2/3")))
	return z
}

// all is a list with the room behind its end.
func all[T any](l []T) []T { return l[:cap(l)] }

// memory is all lists that can be reached, their rooms too.
type memory struct {
	ints  [][]int
	limbs []api.Nat
	rats  [][]api.Rat
	rows  [][][]api.Rat
	pats  [][]api.Pattern
}

func (m *memory) number(r api.Rat) { m.limbs = append(m.limbs, r.Num, r.Den) }

func (m *memory) numbers(l []api.Rat) {
	m.rats = append(m.rats, l)
	for _, r := range all(l) {
		m.number(r)
	}
}

func (m *memory) pattern(p api.Pattern) { m.ints = append(m.ints, p.Start, p.Cols) }

func (m *memory) matrix(x api.Matrix) {
	m.pattern(x.P)
	m.numbers(x.Vals)
}

func (m *memory) dense(l [][]api.Rat) {
	m.rows = append(m.rows, l)
	for _, r := range all(l) {
		m.numbers(r)
	}
}

// memory is that of what is handed in.
func (h held) memory() memory {
	var m memory
	for _, p := range append([]api.Pattern{h.p, h.next}, all(h.list)...) {
		m.pattern(p)
	}
	m.pats = append(m.pats, h.list)
	for _, x := range []api.Matrix{h.m, h.beside, h.own} {
		m.matrix(x)
	}
	m.ints = append(m.ints, h.rs, h.cs, h.byRows, h.byCols)
	m.numbers(h.vals)
	m.dense(h.dense)
	return m
}

// memory is that of an answer: the lists in which the tests hold it are not.
func (a answer) memory() memory {
	var m memory
	for _, p := range a.pats {
		m.pattern(p)
	}
	for _, x := range a.mats {
		m.matrix(x)
	}
	m.ints = append(m.ints, a.ints...)
	m.dense(a.rats)
	return m
}

// dump is a text of all of it, rooms too.
func (m memory) dump() string {
	var s strings.Builder
	for _, l := range m.ints {
		fmt.Fprint(&s, len(l), all(l))
	}
	for _, n := range m.limbs {
		fmt.Fprint(&s, len(n), all(n))
	}
	for _, l := range m.rats {
		fmt.Fprint(&s, len(l), cap(l))
		for _, r := range all(l) {
			fmt.Fprint(&s, r.Neg, len(r.Num), len(r.Den))
		}
	}
	for _, l := range m.pats {
		for _, p := range all(l) {
			s.WriteString(showPattern(p))
		}
	}
	return s.String()
}

// addresses calls f with the address of each thing in each list.
func (m memory) addresses(f func(at any)) {
	each(m.ints, f)
	each(m.rats, f)
	each(m.rows, f)
	each(m.pats, f)
	for _, n := range m.limbs {
		each([][]uint32{n}, f)
	}
}

func each[T any](lists [][]T, f func(at any)) {
	for _, l := range lists {
		for i := range all(l) {
			f(&all(l)[i])
		}
	}
}

// spoil writes over all of it.
func (m memory) spoil() {
	for _, n := range m.limbs {
		for i := range all(n) {
			all(n)[i] = 0x5a5a5a5a
		}
	}
	for _, l := range m.ints {
		for i := range all(l) {
			all(l)[i] = -99
		}
	}
	for _, l := range m.rats {
		clear(all(l))
	}
	for _, l := range m.rows {
		clear(all(l))
	}
}

// P9.15, DOC.md's P2: what is handed in stays as it was, its room too, and is not kept; answers are new memory, each list of them, every number's limbs too.
func TestMemory(t *testing.T) {
	d := dice(11)
	patterns, matrices := sortedOf(wrongPatterns()), sortedOf(wrongMatrices())
	answered := map[string]int{}
	for i := range 300 {
		h := d.held()
		if i%5 == 0 {
			d.spoil(&h, patterns, matrices)
		}
		if i%7 == 0 {
			h.next, h.byCols = h.p, h.byRows // arguments that share their memory
			h.list = append(h.list, h.p, h.p)
			h.beside, h.own = h.m, h.m
		}
		if i%7 > 0 || i%2 > 0 {
			h = h.roomy()
		}
		checkMemory(t, i, h, answered)
	}
	for _, c := range allCalls() {
		if answered[c.name] < 90 {
			t.Errorf("%s was answered %d times", c.name, answered[c.name])
		}
	}
}

// checkMemory makes all calls with one thing.
func checkMemory(t *testing.T, i int, h held, answered map[string]int) {
	t.Helper()
	before := h.memory().dump()
	given := map[any]struct{}{}
	h.memory().addresses(func(at any) { given[at] = struct{}{} })
	for _, c := range allCalls() {
		what := fmt.Sprint(c.name, " of ", i)
		a := c.do(h)
		want := a.text()
		mine := map[any]struct{}{}
		a.memory().addresses(func(at any) {
			if _, met := given[at]; met {
				t.Fatalf("%s: an answer shares memory with an argument", what)
			}
			if _, met := mine[at]; met {
				t.Fatalf("%s: two lists of an answer share memory", what)
			}
			mine[at] = struct{}{}
		})
		a.memory().spoil()
		if again := c.do(h).text(); again != want {
			t.Fatalf("%s: another answer the second time: %s, %s", what, short(want), short(again))
		}
		if h.memory().dump() != before {
			t.Fatalf("%s: an argument was changed", what)
		}
		if a.e == api.OK {
			answered[c.name]++
		}
	}
}

// DOC.md's P3: nil and empty lists are the same.
func TestNilAndEmpty(t *testing.T) {
	none := held{p: api.Pattern{Start: []int{0}}, next: api.Pattern{Start: []int{0}}, list: []api.Pattern{{Start: []int{0}}}, m: api.Matrix{P: api.Pattern{Start: []int{0}}}, beside: api.Matrix{P: api.Pattern{Start: []int{0}}}, own: api.Matrix{P: api.Pattern{Start: []int{0}}}}
	empty := api.Pattern{Start: []int{0}, Cols: []int{}}
	full := api.Matrix{P: empty, Vals: []api.Rat{}}
	some := held{p: empty, next: empty, list: []api.Pattern{empty}, m: full, beside: full, own: full, rs: []int{}, cs: []int{}, vals: []api.Rat{}, byRows: []int{}, byCols: []int{}, dense: [][]api.Rat{}}
	for _, c := range allCalls() {
		if a, b := c.do(none), c.do(some); a.text() != b.text() || a.e != api.OK {
			t.Errorf("%s: %s, %s", c.name, a.text(), b.text())
		}
	}
	if !sparse.Same(none.m, full) || !sparse.Same(full, none.m) {
		t.Error("Same of nil and empty lists")
	}
	zero := api.Matrix{P: pat(1, 1, "0,0"), Vals: []api.Rat{{Num: api.Nat{}, Den: api.Nat{1}}}}
	if !sparse.Same(zero, mat(1, 1, "0,0=0")) || !sparse.Same(mat(1, 1, "0,0=0"), zero) {
		t.Error("Same of zeros")
	}
	m, e := sparse.Sparse([][]api.Rat{nil, {}}, 0)
	wantMatrix(t, "Sparse of rows without columns", m, e, mat(2, 0, ""))
	m, e = sparse.Sparse([][]api.Rat{zero.Vals}, 1)
	wantMatrix(t, "Sparse of a zero", m, e, mat(1, 1, ""))
	_, a := sparse.Build(1, 1, nil, []int{})
	_, b := sparse.Union([]api.Pattern{}...)
	_, c := sparse.Union(nil...)
	if a != api.OK || b != api.ErrShape || c != api.ErrShape {
		t.Errorf("errors %d, %d, %d", a, b, c)
	}
}
