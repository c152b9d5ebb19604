package solve_test

import (
	"fmt"
	"slices"
	"strings"
	"testing"

	"slope/api"
)

// roomy is a copy of a list with three marks behind its end.
func roomy[T any](l []T, mark T) []T { return append(slices.Clone(l), mark, mark, mark)[:len(l)] }

// roomyRat is a copy of a number whose lists have such room.
func roomyRat(r api.Rat) api.Rat {
	return api.Rat{Neg: r.Neg, Num: roomy(r.Num, 0xa5a5a5a5), Den: roomy(r.Den, 0xa5a5a5a5)}
}

// roomyRats are numbers with such room, within and behind.
func roomyRats(l []api.Rat) []api.Rat {
	var z []api.Rat
	for _, r := range l {
		z = append(z, roomyRat(r))
	}
	return roomy(z, roomyRat(num("-7/9")))
}

// roomy is a copy all of whose lists have such room.
func (h held) roomy() held {
	p := api.Pattern{Rows: h.a.P.Rows, Width: h.a.P.Width, Start: roomy(h.a.P.Start, -9), Cols: roomy(h.a.P.Cols, -8)}
	x := api.Tape{Inputs: h.x.Inputs, Outs: roomy(h.x.Outs, -9)}
	for _, op := range h.x.Ops {
		op.C = roomyRat(op.C)
		x.Ops = append(x.Ops, op)
	}
	x.Ops = roomy(x.Ops, api.Op{Kind: 99, A: -9, B: -9, N: -9, C: roomyRat(num("-7/9"))})
	return held{a: api.Matrix{P: p, Vals: roomyRats(h.a.Vals)}, b: roomyRats(h.b), x: x, at: roomyRats(h.at), steps: h.steps}
}

// all is a list with the room behind its end.
func all[T any](l []T) []T { return l[:cap(l)] }

// memory is all lists that can be reached, their rooms too.
type memory struct {
	ints   [][]int
	limbs  []api.Nat
	rats   [][]api.Rat
	rows   [][][]api.Rat
	ops    [][]api.Op
	pivots [][]api.Pivot
}

func (m *memory) number(r api.Rat) { m.limbs = append(m.limbs, r.Num, r.Den) }

func (m *memory) numbers(lists ...[]api.Rat) {
	for _, l := range lists {
		m.rats = append(m.rats, l)
		for _, r := range all(l) {
			m.number(r)
		}
	}
}

// memory is that of what is handed in.
func (h held) memory() memory {
	m := memory{ints: [][]int{h.a.P.Start, h.a.P.Cols, h.x.Outs}, ops: [][]api.Op{h.x.Ops}}
	for _, op := range all(h.x.Ops) {
		m.number(op.C)
	}
	m.numbers(h.a.Vals, h.b, h.at)
	return m
}

// memory is that of an answer.
func (a answer) memory() memory {
	m := memory{ints: [][]int{a.ints}, rows: [][][]api.Rat{a.rows, a.walk.Points}, pivots: [][]api.Pivot{a.pivots}}
	m.numbers(a.list, a.proof)
	m.numbers(all(a.rows)...)
	m.numbers(all(a.walk.Points)...)
	for _, p := range all(a.pivots) {
		m.number(p.Value)
	}
	m.number(a.number)
	return m
}

// dump is a text of all of it, rooms too.
func (m memory) dump() string {
	var s strings.Builder
	for _, l := range m.ints {
		fmt.Fprint(&s, len(l), all(l))
	}
	for _, n := range m.limbs {
		fmt.Fprint(&s, len(n), all(n))
	}
	for _, l := range m.rats {
		fmt.Fprint(&s, len(l), cap(l))
		for _, r := range all(l) {
			fmt.Fprint(&s, r.Neg, len(r.Num), len(r.Den))
		}
	}
	for _, l := range m.ops {
		fmt.Fprint(&s, len(l), cap(l))
		for _, op := range all(l) {
			fmt.Fprint(&s, op.Kind, op.A, op.B, op.N, op.C.Neg)
		}
	}
	return s.String()
}

// addresses calls f with the address of each thing in each list.
func (m memory) addresses(f func(at any)) {
	each(m.ints, f)
	each(m.rats, f)
	each(m.rows, f)
	each(m.ops, f)
	each(m.pivots, f)
	for _, n := range m.limbs {
		each([][]uint32{n}, f)
	}
}

func each[T any](lists [][]T, f func(at any)) {
	for _, l := range lists {
		for i := range all(l) {
			f(&all(l)[i])
		}
	}
}

// spoil writes over all of it.
func (m memory) spoil() {
	for _, n := range m.limbs {
		for i := range all(n) {
			all(n)[i] = 0x5a5a5a5a
		}
	}
	for _, l := range m.ints {
		for i := range all(l) {
			all(l)[i] = -99
		}
	}
	for _, l := range m.rats {
		clear(all(l))
	}
	for _, l := range m.rows {
		clear(all(l))
	}
	for _, l := range m.ops {
		clear(all(l))
	}
	for _, l := range m.pivots {
		clear(all(l))
	}
}

// helds are systems and tapes of all kinds.
func helds(t *testing.T) []held {
	d := dice(101)
	var l []held
	add := func(h held) { l = append(l, h, h.roomy()) }
	root := must(t, "inputs 1; in 0; pow 0 2; const -2; add 1 2; out 3")
	for _, s := range []string{"", "3", "0", ".", "1 .,. 1", "2 1,4 2", "0 1,1 0", "1 2 3,4 5 6", "1 2,3 4,5 6", "1 1 1,1 2 .,1 . 3", "12345678901234567890/7 .,. 1/12345678901234567891"} {
		for _, b := range []string{"", "1", "1 2", "1 3", "0 0", "12345678901234567890 1/7", "1 2 3", "5 6 8"} {
			add(held{a: mat(s), b: nums(b), x: root, at: nums("1"), steps: d.next(6)})
		}
	}
	// Steps that are 0: points whose numbers are those of the point ahead.
	still := must(t, "inputs 2; in 0; in 1; const 5; sub 0 2; const 12345678901234567890/7; sub 1 4; out 3; out 5")
	for _, at := range []string{"5 7", "7 12345678901234567890/7", "5 12345678901234567890/7", "0 0"} {
		add(held{a: mat("1"), b: nums("0"), x: still, at: nums(at), steps: 3})
	}
	add(held{})
	add(held{a: api.Matrix{P: api.Pattern{Rows: 9}, Vals: nums("1")}, b: []api.Rat{{}}, x: api.Tape{Ops: []api.Op{{Kind: 99}}, Outs: []int{0}}, steps: 99})
	for range 100 {
		rows, width := d.next(6), d.next(6)
		g := d.ofRank(rows, width, d.next(min(rows, width)+1), d.number)
		if d.next(2) == 0 {
			width = rows
			g = d.grid(rows, rows, 80, d.number)
		}
		b := d.numbers(rows, d.number)
		if d.next(2) == 0 {
			b = timesCol(g.full(), d.numbers(width, d.number))
		}
		x := d.tape(8)
		add(held{a: g.matrix(), b: ratsOf(b), x: x, at: ratsOf(d.numbers(x.Inputs, d.number)), steps: d.next(4)})
	}
	// entries, numbers beside them and coordinates of one memory
	one := l[0].at[0]
	m := mat("1 1,1 1")
	for i := range m.Vals {
		m.Vals[i] = one
	}
	return append(l, held{a: m, b: []api.Rat{one, one}, x: still, at: []api.Rat{one, one}, steps: 2})
}

// P16.10, DOC.md's P2: what is handed in stays as it was, its room too, and is not kept; answers are new memory, each list of them, every number's limbs too.
func TestMemory(t *testing.T) {
	t.Parallel()
	answered := map[string]int{}
	for i, h := range helds(t) {
		before := h.memory().dump()
		given := map[any]struct{}{}
		h.memory().addresses(func(at any) { given[at] = struct{}{} })
		for _, c := range append(matrixCalls(), walkCall()) {
			what := fmt.Sprint(c.name, " of ", i)
			a := c.do(h)
			want := a.text()
			mine := map[any]struct{}{}
			a.memory().addresses(func(at any) {
				if _, met := given[at]; met {
					t.Fatalf("%s: an answer shares memory with an argument", what)
				}
				if _, met := mine[at]; met {
					t.Fatalf("%s: two lists of an answer share memory", what)
				}
				mine[at] = struct{}{}
			})
			a.memory().spoil()
			b := c.do(h)
			if b.text() != want {
				t.Fatalf("%s: another answer the second time: %s, %s", what, short(want), short(b.text()))
			}
			b.memory().addresses(func(at any) {
				if _, met := mine[at]; met {
					t.Fatalf("%s: two answers share memory", what)
				}
			})
			if h.memory().dump() != before {
				t.Fatalf("%s: an argument was changed", what)
			}
			if a.e == api.OK || a.e == api.ErrNone {
				answered[c.name]++
			}
		}
	}
	for _, c := range append(matrixCalls(), walkCall()) {
		if answered[c.name] < 100 {
			t.Errorf("%s was answered %d times", c.name, answered[c.name])
		}
	}
}

// DOC.md's P2: a change of an argument after the call isn't seen in the answer.
func TestNothingKept(t *testing.T) {
	t.Parallel()
	for i, h := range helds(t) {
		for _, c := range append(matrixCalls(), walkCall()) {
			mine := h.roomy()
			a := c.do(mine)
			want := a.text()
			mine.memory().spoil()
			if a.text() != want {
				t.Fatalf("%s of %d: an argument is kept", c.name, i)
			}
		}
	}
}

// DOC.md's P3: nil and empty lists are the same.
func TestNilAndEmpty(t *testing.T) {
	start := api.Matrix{P: api.Pattern{Start: []int{0}}}
	empty := api.Matrix{P: api.Pattern{Start: []int{0}, Cols: []int{}}, Vals: []api.Rat{}}
	x := must(t, "inputs 1; in 0; pow 0 2; out 1")
	y := api.Tape{Inputs: 1, Ops: slices.Clone(x.Ops), Outs: x.Outs}
	y.Ops[1].C = api.Rat{Num: api.Nat{}, Den: api.Nat{}}
	zero, naught := api.Rat{Den: api.Nat{1}}, api.Rat{Num: api.Nat{}, Den: api.Nat{1}}
	m, n := mat("0 1,1 0"), mat("0 1,1 0")
	m.Vals[0], m.Vals[3], n.Vals[0], n.Vals[3] = zero, zero, naught, naught
	for _, c := range append(matrixCalls(), walkCall()) {
		for _, pair := range [][2]held{
			{{a: start, x: x, at: []api.Rat{zero}}, {a: empty, b: []api.Rat{}, x: y, at: []api.Rat{naught}}},
			{{a: m, b: []api.Rat{zero, num("5")}, x: x, at: []api.Rat{zero}}, {a: n, b: []api.Rat{naught, num("5")}, x: y, at: []api.Rat{naught}}},
			{{}, {a: api.Matrix{P: api.Pattern{Start: []int{}, Cols: []int{}}, Vals: []api.Rat{}}, b: []api.Rat{}, x: api.Tape{Ops: []api.Op{}, Outs: []int{}}, at: []api.Rat{}}},
		} {
			if a, b := c.do(pair[0]), c.do(pair[1]); a.text() != b.text() {
				t.Errorf("%s: %s, %s", c.name, a.text(), b.text())
			}
		}
	}
}
