package series_test

import (
	"fmt"
	"slices"
	"testing"

	"slope/api"
	"slope/series"
)

// roomy is a copy of a list with three marks behind its end.
func roomy[T any](l []T, mark T) []T { return append(slices.Clone(l), mark, mark, mark)[:len(l)] }

// roomyRat is a copy of a number whose lists have such room.
func roomyRat(r api.Rat) api.Rat {
	return api.Rat{Neg: r.Neg, Num: roomy(r.Num, 0xa5a5a5a5), Den: roomy(r.Den, 0xa5a5a5a5)}
}

// roomyRats are numbers with such room, within and behind.
func roomyRats(l []api.Rat) []api.Rat {
	var z []api.Rat
	for _, r := range l {
		z = append(z, roomyRat(r))
	}
	return roomy(z, roomyRat(num("-7/9")))
}

// held is what calls are given: a tape on a line, two series, a power and a number.
type held struct {
	x         api.Tape
	at, along []api.Rat
	degree    int
	job
}

// roomy is a copy all of whose lists have such room.
func (h held) roomy() held {
	z := held{x: api.Tape{Inputs: h.x.Inputs, Outs: roomy(h.x.Outs, -9)}, at: roomyRats(h.at), along: roomyRats(h.along), degree: h.degree}
	for _, op := range h.x.Ops {
		op.C = roomyRat(op.C)
		z.x.Ops = append(z.x.Ops, op)
	}
	z.x.Ops = roomy(z.x.Ops, api.Op{Kind: 99, A: -9, B: -9, N: -9, C: roomyRat(num("-7/9"))})
	z.job = job{roomyRats(h.a), roomyRats(h.b), h.n, roomyRat(h.s)}
	return z
}

// all is a list with the room behind its end.
func all[T any](l []T) []T { return l[:cap(l)] }

// dump is a text of all that can be reached, rooms too.
func (h held) dump() string {
	s := fmt.Sprint(h.x.Inputs, all(h.x.Outs), h.degree, h.n)
	number := func(r api.Rat) { s += fmt.Sprint(r.Neg, all(r.Num), all(r.Den)) }
	for _, op := range all(h.x.Ops) {
		s += fmt.Sprint(op.Kind, op.A, op.B, op.N)
		number(op.C)
	}
	for _, l := range [][]api.Rat{h.at, h.along, h.a, h.b, {h.s}} {
		s += "|"
		for _, r := range all(l) {
			number(r)
		}
	}
	return s
}

// spoil writes over all that can be reached.
func (h held) spoil() {
	for _, l := range [][]api.Rat{h.at, h.along, h.a, h.b, {h.s}} {
		spoil(l)
	}
	for i := range h.x.Ops {
		spoil([]api.Rat{h.x.Ops[i].C})
		h.x.Ops[i] = api.Op{}
	}
	clear(h.x.Outs)
}

// spoil writes over numbers, rooms too.
func spoil(l []api.Rat) {
	for i, r := range all(l) {
		fill(r.Num)
		fill(r.Den)
		all(l)[i] = api.Rat{Neg: true}
	}
}

// fill writes over limbs, room too.
func fill(n api.Nat) {
	for i := range all(n) {
		all(n)[i] = 0x5a5a5a5a
	}
}

// calls are all calls, each with its answer as lists of numbers.
func calls() map[string]func(h held) ([][]api.Rat, int, api.Errno) {
	z := map[string]func(h held) ([][]api.Rat, int, api.Errno){
		"Expand": func(h held) ([][]api.Rat, int, api.Errno) { return series.Expand(h.x, h.at, h.along, h.degree) },
		"Along": func(h held) ([][]api.Rat, int, api.Errno) {
			a, b, c, place, e := series.Along(h.x, h.at, h.along)
			return [][]api.Rat{a, b, c}, place, e
		},
	}
	for _, r := range reckoners() {
		z[r.name] = func(h held) ([][]api.Rat, int, api.Errno) {
			l, e := r.do(h.job)
			return [][]api.Rat{l}, 0, e
		}
	}
	return z
}

// helds are tapes and series of all kinds.
func helds(t *testing.T) []held {
	d := dice(31)
	h := held{x: geometric(t), at: nums("1/2"), along: nums("-3"), degree: 3, job: job{nums("1 2/3 0"), nums("0 -1/2 0"), 3, num("5/3")}}
	l := []held{h.roomy(), {}, held{x: api.Tape{Ops: []api.Op{{Kind: 99}}, Outs: []int{0}}, job: job{a: make([]api.Rat, 3), b: make([]api.Rat, 2)}}.roomy()}
	// What is passed on without any work: inputs and constants as outputs, several times; powers 0 and 1; products by 1; one number.
	h.x = must(t, "inputs 2; in 0; in 0; const -7/3; const 1; mul 3 0; mul 3 2; neg 0; neg 6; pow 0 1; pow 2 1; pow 0 0; out 0; out 1; out 0; out 2; out 2; out 4; out 5; out 7; out 3; out 8; out 9; out 10; out 10")
	h.at, h.along = nums("12345678901234567890/7 5"), nums("98765432109876543210 -1")
	h.job = job{nums("12345678901234567890/7 5 -3"), nums("0 1 0"), 1, num("0")}
	l = append(l, h.roomy())
	h.b, h.n, h.degree = nums("1 0 0"), -1, 0
	l = append(l, h.roomy())
	h.a, h.b, h.n = nums("12345678901234567890/7"), nums("1"), 0
	l = append(l, h.roomy())
	// arguments that share their memory
	last := l[3]
	last.at = []api.Rat{last.at[0], last.at[0]}
	last.along, last.b, last.s = last.at, last.a, last.a[0]
	l = append(l, last)
	for i := range 150 {
		x := d.tape(8)
		h := held{x: x, at: d.point(x.Inputs), along: d.point(x.Inputs), degree: d.degree(), job: d.job(1 + d.next(17))}
		if i%2 == 0 {
			h.b[0], h.n = num("0"), d.next(5)-1
		}
		l = append(l, h.roomy())
	}
	return l
}

// apart fails if two lists of an answer share memory: each is written over, and the others must stay.
func apart(t *testing.T, what string, d [][]api.Rat) {
	t.Helper()
	var limbs []api.Nat
	for _, l := range d {
		for _, r := range all(l) {
			limbs = append(limbs, r.Num, r.Den)
		}
	}
	var was []string
	for _, n := range limbs {
		was = append(was, fmt.Sprint(all(n)))
	}
	for i, n := range limbs {
		if fmt.Sprint(all(n)) != was[i] {
			t.Fatalf("%s: two numbers of one answer share memory", what)
		}
		fill(n)
	}
	for i, l := range d {
		for j := range all(l) {
			if all(l)[j].Neg && all(l)[j].Den == nil {
				t.Fatalf("%s: two lists of one answer share memory: list %d", what, i)
			}
			all(l)[j] = api.Rat{Neg: true}
		}
	}
}

// P8.7, DOC.md's P2: what is handed in stays as it was, its room too, and is not kept; answers are new memory, each list of them.
func TestMemory(t *testing.T) {
	answered := map[string]int{}
	for i, h := range helds(t) {
		before := h.dump()
		for name, do := range calls() {
			what := fmt.Sprint(name, " of ", i)
			d, place, e := do(h)
			want := fmt.Sprint(rows(d), place, e)
			if h.dump() != before {
				t.Fatalf("%s: an argument was changed", what)
			}
			for _, l := range d {
				spoil(l)
			}
			if h.dump() != before {
				t.Fatalf("%s: an answer shares memory with an argument", what)
			}
			again, place, e := do(h)
			if fmt.Sprint(rows(again), place, e) != want {
				t.Fatalf("%s: another answer the second time", what)
			}
			apart(t, what, again)
			if e == api.OK {
				answered[name]++
			}
		}
	}
	for name := range calls() {
		if answered[name] < 40 {
			t.Errorf("%s was answered %d times", name, answered[name])
		}
	}
}

// P8.7, DOC.md's P2: a change of an argument after the call isn't seen in the answer.
func TestNothingKept(t *testing.T) {
	for i, h := range helds(t) {
		for name, do := range calls() {
			mine := h.roomy()
			d, _, _ := do(mine)
			want := rows(d)
			mine.spoil()
			if rows(d) != want {
				t.Fatalf("%s of %d: an argument is kept", name, i)
			}
		}
	}
}

// DOC.md's P3: nil and empty lists are the same.
func TestNilAndEmpty(t *testing.T) {
	x := must(t, "inputs 0; const 3; neg 0; const 0; out 1; out 2")
	y := x
	y.Ops = slices.Clone(x.Ops)
	y.Ops[1].C = api.Rat{Num: api.Nat{}, Den: api.Nat{}}
	zero, empty := api.Rat{Den: api.Nat{1}}, api.Rat{Num: api.Nat{}, Den: api.Nat{1}}
	y.Ops[2].C, x.Ops[2].C = empty, zero
	for name, do := range calls() {
		a, place, e := do(held{x: x, degree: 1, job: job{[]api.Rat{zero, num("1")}, []api.Rat{zero, zero}, 2, zero}})
		b, p, f := do(held{x: y, at: []api.Rat{}, along: []api.Rat{}, degree: 1, job: job{[]api.Rat{empty, num("1")}, []api.Rat{empty, empty}, 2, empty}})
		if rows(a) != rows(b) || place != p || e != f {
			t.Errorf("%s: %s, %d, %d; %s, %d, %d", name, rows(a), place, e, rows(b), p, f)
		}
		a, place, e = do(held{})
		b, p, f = do(held{at: []api.Rat{}, along: []api.Rat{}, x: api.Tape{Ops: []api.Op{}, Outs: []int{}}, job: job{a: []api.Rat{}, b: []api.Rat{}}})
		if rows(a) != rows(b) || place != p || e != f || e == api.OK {
			t.Errorf("%s of nothing: %s, %d, %d; %s, %d, %d", name, rows(a), place, e, rows(b), p, f)
		}
	}
}
