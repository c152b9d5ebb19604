package regain_test

import (
	"fmt"
	"slices"
	"strings"
	"testing"

	"slope/api"
)

// roomy is a copy of a list with three marks behind its end.
func roomy[T any](l []T, mark T) []T { return append(slices.Clone(l), mark, mark, mark)[:len(l)] }

// roomyRats are numbers with such room, within and behind.
func roomyRats(l []api.Rat) []api.Rat {
	var z []api.Rat
	own := func(r api.Rat) api.Rat {
		return api.Rat{Neg: r.Neg, Num: roomy(r.Num, 0xa5a5a5a5), Den: roomy(r.Den, 0xa5a5a5a5)}
	}
	for _, r := range l {
		z = append(z, own(r))
	}
	return roomy(z, own(num("-7/9")))
}

// roomyPattern is a copy of a pattern whose lists have such room.
func roomyPattern(p api.Pattern) api.Pattern {
	return api.Pattern{Rows: p.Rows, Width: p.Width, Start: roomy(p.Start, -9), Cols: roomy(p.Cols, -8)}
}

// roomy is a copy all of whose lists have such room.
func (h held) roomy() held {
	z := held{p: roomyPattern(h.p), m: api.Matrix{P: roomyPattern(h.m.P), Vals: roomyRats(h.m.Vals)}, colours: roomy(h.colours, -7), x: roomyRats(h.x)}
	for _, l := range h.sums {
		z.sums = append(z.sums, roomyRats(l))
	}
	z.sums = roomy(z.sums, roomyRats(nums("1 2/3")))
	return z
}

// all is a list with the room behind its end.
func all[T any](l []T) []T { return l[:cap(l)] }

// memory is all lists that can be reached, their rooms too.
type memory struct {
	ints  [][]int
	limbs []api.Nat
	rats  [][]api.Rat
	rows  [][][]api.Rat
}

func (m *memory) numbers(l []api.Rat) {
	m.rats = append(m.rats, l)
	for _, r := range all(l) {
		m.limbs = append(m.limbs, r.Num, r.Den)
	}
}

func (m *memory) pattern(p api.Pattern) { m.ints = append(m.ints, p.Start, p.Cols) }

func (m *memory) matrix(x api.Matrix) {
	m.pattern(x.P)
	m.numbers(x.Vals)
}

func (m *memory) sums(l [][]api.Rat) {
	m.rows = append(m.rows, l)
	for _, r := range all(l) {
		m.numbers(r)
	}
}

// memory is that of what is handed in.
func (h held) memory() memory {
	var m memory
	m.pattern(h.p)
	m.matrix(h.m)
	m.ints = append(m.ints, h.colours)
	m.sums(h.sums)
	m.numbers(h.x)
	return m
}

// memory is that of an answer.
func (a answer) memory() memory {
	var m memory
	m.matrix(a.m)
	m.sums(a.rows)
	m.numbers(a.list)
	return m
}

// dump is a text of all of it, rooms too.
func (m memory) dump() string {
	var s strings.Builder
	for _, l := range m.ints {
		fmt.Fprint(&s, len(l), all(l))
	}
	for _, n := range m.limbs {
		fmt.Fprint(&s, len(n), all(n))
	}
	for _, l := range m.rats {
		fmt.Fprint(&s, len(l), cap(l))
		for _, r := range all(l) {
			fmt.Fprint(&s, r.Neg, len(r.Num), len(r.Den))
		}
	}
	for _, l := range m.rows {
		fmt.Fprint(&s, len(l), cap(l))
	}
	return s.String()
}

// addresses calls f with the address of each thing in each list.
func (m memory) addresses(f func(at any)) {
	each(m.ints, f)
	each(m.rats, f)
	each(m.rows, f)
	for _, n := range m.limbs {
		each([][]uint32{n}, f)
	}
}

func each[T any](lists [][]T, f func(at any)) {
	for _, l := range lists {
		for i := range all(l) {
			f(&all(l)[i])
		}
	}
}

// spoil writes over all of it.
func (m memory) spoil() {
	for _, n := range m.limbs {
		for i := range all(n) {
			all(n)[i] = 0x5a5a5a5a
		}
	}
	for _, l := range m.ints {
		for i := range all(l) {
			all(l)[i] = -99
		}
	}
	for _, l := range m.rats {
		clear(all(l))
	}
	for _, l := range m.rows {
		clear(all(l))
	}
}

// P13.9, DOC.md's P2: what is handed in stays as it was, its room too, and is not kept; answers are new memory, each list of them, every number's limbs too.
func TestMemory(t *testing.T) {
	t.Parallel()
	d := dice(31)
	answered := map[string]int{}
	for i := range 600 {
		kind := kinds()[i%4]
		s := d.small(kind, pick(&d, 0, 1, 3, 6, 10))
		colours := pick(&d, d.colourings(t, kind, s)[:3]...)
		h := held{p: s.pattern(), m: d.matrix(kind, s), colours: colours, sums: d.sums(t, i, kind, s, colours)}
		for range s.width {
			h.x = append(h.x, d.number())
		}
		switch {
		case i%9 == 0:
			d.spoil(&h)
		case i%7 == 0:
			h.m.P = h.p // arguments that share their memory
			for k := range h.m.Vals {
				h.m.Vals[k] = h.m.Vals[0]
			}
			h.sums = d.sums(t, 4, kind, s, colours)
		}
		if i%5 > 0 {
			h = h.roomy()
		}
		checkMemory(t, i, h, answered)
	}
	for _, c := range allCalls() {
		if answered[c.name] < 100 {
			t.Errorf("%s was answered %d times", c.name, answered[c.name])
		}
	}
}

// checkMemory makes all calls with one thing.
func checkMemory(t *testing.T, i int, h held, answered map[string]int) {
	t.Helper()
	before := h.memory().dump()
	given := map[any]struct{}{}
	h.memory().addresses(func(at any) { given[at] = struct{}{} })
	for _, c := range allCalls() {
		what := fmt.Sprint(c.name, " of ", i)
		a := c.do(h)
		want := a.text()
		mine := map[any]struct{}{}
		a.memory().addresses(func(at any) {
			if _, met := given[at]; met {
				t.Fatalf("%s: an answer shares memory with an argument", what)
			}
			if _, met := mine[at]; met {
				t.Fatalf("%s: two lists of an answer share memory", what)
			}
			mine[at] = struct{}{}
		})
		a.memory().spoil()
		b := c.do(h)
		if b.text() != want {
			t.Fatalf("%s: another answer the second time: %s, %s", what, short(want), short(b.text()))
		}
		b.memory().addresses(func(at any) {
			if _, met := mine[at]; met {
				t.Fatalf("%s: two answers share memory", what)
			}
		})
		if h.memory().dump() != before {
			t.Fatalf("%s: an argument was changed", what)
		}
		if a.e == api.OK {
			answered[c.name]++
		}
	}
}

// DOC.md's P3: nil and empty lists are the same, in arguments and within them.
func TestNilAndEmpty(t *testing.T) {
	empty := api.Pattern{Start: []int{0}, Cols: []int{}}
	none := held{p: api.Pattern{Start: []int{0}}, m: api.Matrix{P: api.Pattern{Start: []int{0}}}}
	some := held{p: empty, m: api.Matrix{P: empty, Vals: []api.Rat{}}, colours: []int{}, sums: [][]api.Rat{}, x: []api.Rat{}}
	for _, c := range allCalls() {
		if a, b := wantPlain(t, c, none), wantPlain(t, c, some); !a.same(b) || a.e != api.OK {
			t.Errorf("%s: %s, %s", c.name, a.text(), b.text())
		}
	}
	// Rows of no numbers, and zeros whose Num is nil or empty.
	tall := where(2, 0, nil).pattern()
	for _, sums := range [][][]api.Rat{{nil, nil}, {{}, {}}, {nil, {}}} {
		if a := wantPlain(t, callOf("Columns"), held{p: tall, sums: sums}); a.e != api.OK {
			t.Errorf("rows of no numbers: error %d", a.e)
		}
	}
	zero, naught := api.Rat{Den: api.Nat{1}}, api.Rat{Num: api.Nat{}, Den: api.Nat{1}}
	for _, name := range apart() {
		for _, sums := range [][][]api.Rat{{{zero, naught}, {naught, zero}}, {{naught, naught}, {zero, zero}}} {
			for _, m := range []api.Matrix{mat("0 .,. 0"), mat(". 0,0 ."), mat(". .,. ."), mat("0 0,0 0")} {
				a := callOf(name).do(held{p: m.P, colours: []int{0, 1}, sums: sums})
				wantMatrix(t, name, a.m, a.e, m)
			}
		}
	}
	for _, x := range []held{{}, {p: api.Pattern{Start: []int{}, Cols: []int{}}, m: api.Matrix{P: api.Pattern{Start: []int{}}}}} {
		wantErrors(t, "nothing", x, api.ErrPattern, apart()...)
		wantErrors(t, "nothing", x, api.ErrMatrix, "Compress", "CompressRows", "Product")
	}
}
