package tape_test

import (
	"fmt"
	"math"
	"slices"
	"strings"
	"testing"

	"slope/api"
	"slope/tape"
)

// roomy is a copy of a list with three marks behind its end.
func roomy[T any](l []T, mark T) []T { return append(slices.Clone(l), mark, mark, mark)[:len(l)] }

// roomyRat is a copy of a number whose lists have such room.
func roomyRat(r api.Rat) api.Rat {
	return api.Rat{Neg: r.Neg, Num: roomy(r.Num, 0xa5a5a5a5), Den: roomy(r.Den, 0xa5a5a5a5)}
}

// roomyRats are numbers with such room, within and behind.
func roomyRats(l []api.Rat) []api.Rat {
	var z []api.Rat
	for _, r := range l {
		z = append(z, roomyRat(r))
	}
	return roomy(z, api.Rat{Neg: true, Num: api.Nat{7}, Den: api.Nat{9}})
}

// roomyTape is a copy of a tape all of whose lists have such room.
func roomyTape(t api.Tape) api.Tape {
	z := api.Tape{Inputs: t.Inputs, Outs: roomy(t.Outs, -9)}
	for _, op := range t.Ops {
		op.C = roomyRat(op.C)
		z.Ops = append(z.Ops, op)
	}
	z.Ops = roomy(z.Ops, api.Op{Kind: 99, A: -9, B: -9, N: -9, C: roomyRat(num("-7/9"))})
	return z
}

// all is a list with the room behind its end.
func all[T any](l []T) []T { return l[:cap(l)] }

// dumpRats is a text of all that can be reached from numbers, rooms too.
func dumpRats(l []api.Rat) string {
	s := ""
	for _, r := range all(l) {
		s += fmt.Sprint(r.Neg, all(r.Num), all(r.Den))
	}
	return s
}

// dump is a text of all that can be reached from a tape, rooms too.
func dump(t api.Tape) string {
	s := fmt.Sprint(t.Inputs, all(t.Outs))
	for _, op := range all(t.Ops) {
		s += fmt.Sprint(op.Kind, op.A, op.B, op.N, dumpRats([]api.Rat{op.C}))
	}
	return s
}

// room is one list of an answer, with the room behind its end.
type room struct {
	write func()
	text  func() string
}

// roomOf is that of a list.
func roomOf[T any](l []T, mark T) room {
	l = all(l)
	return room{func() {
		for i := range l {
			l[i] = mark
		}
	}, func() string { return fmt.Sprint(l) }}
}

// rooms are all lists of a tape and of what stands beside it; the list of nodes, which has others within it, is the last.
func rooms(t api.Tape, to []int) []room {
	l := []room{roomOf(t.Outs, -5), roomOf(to, -5)}
	for _, op := range t.Ops {
		l = append(l, roomOf(op.C.Num, 0xa5a5a5a5), roomOf(op.C.Den, 0xa5a5a5a5))
	}
	return append(l, roomOf(t.Ops, api.Op{}))
}

// checkApart writes over one list of an answer after the other, and looks whether another one has changed.
func checkApart(t *testing.T, what string, l []room) {
	t.Helper()
	var was []string
	for _, r := range l {
		was = append(was, r.text())
	}
	for i, r := range l {
		for j := i; j < len(l)-1; j++ {
			if l[j].text() != was[j] {
				t.Fatalf("%s: two lists of one answer share memory: list %d", what, j)
			}
		}
		r.write()
	}
}

// held are tapes of all kinds, with what stands beside them.
func held() []api.Tape {
	d := dice(11)
	l := []api.Tape{example(), every(), {}, {Outs: []int{3}}, {Ops: []api.Op{{Kind: 99}}, Outs: []int{0}}, {Ops: []api.Op{constant("1"), constant("1"), constant("2/3"), constant("2/3")}, Outs: []int{3, 2, 1, 0}}}
	for range 100 {
		l = append(l, d.tape(8), d.raw())
	}
	return l
}

// DOC.md's P2: what is handed in stays as it was, its room too.
func TestArgumentsStay(t *testing.T) {
	d := dice(12)
	for _, x := range held() {
		h := roomyTape(x)
		inputs := min(max(x.Inputs, 0), 64)
		at, along, w := roomyRats(d.point(inputs)), roomyRats(d.point(inputs)), roomyRats(d.point(len(x.Outs)))
		before := []string{dump(h), dumpRats(at), dumpRats(along), dumpRats(w)}
		tape.Check(h)
		tape.Live(h)
		tape.Uses(h)
		tape.Depth(h)
		tape.Trim(h)
		tape.Merge(h)
		tape.Clean(h)
		tape.Blend(h, w)
		for upto := range 4 {
			tape.Cut(h, upto)
		}
		tape.Weigh(h, at, along)
		tape.Large(h, at, along)
		tape.LargeSum(h, at, along, w)
		tape.Print(h)
		if !slices.Equal(before, []string{dump(h), dumpRats(at), dumpRats(along), dumpRats(w)}) {
			t.Errorf("an argument was changed: %s", show(x))
		}
	}
}

// DOC.md's P2: tapes are new memory, and so is each of their lists.
func TestTapesAreNew(t *testing.T) {
	d := dice(13)
	for _, x := range held() {
		w := roomyRats(d.point(len(x.Outs)))
		if len(w) > 1 {
			// two weights of one memory don't make two constants of one memory
			w[1] = w[0]
		}
		alone := func(z api.Tape, e api.Errno) (api.Tape, []int, api.Errno) { return z, nil, e }
		for what, do := range map[string]call{
			"Trim": tape.Trim, "Merge": tape.Merge, "Clean": tape.Clean,
			"Blend": func(x api.Tape) (api.Tape, []int, api.Errno) { return alone(tape.Blend(x, w)) },
			"Cut":   func(x api.Tape) (api.Tape, []int, api.Errno) { return alone(tape.Cut(x, min(1, len(x.Ops)))) },
			"Parse": func(x api.Tape) (api.Tape, []int, api.Errno) {
				s, _ := tape.Print(x)
				z, _, e := tape.Parse(s)
				return z, nil, e
			},
		} {
			h := roomyTape(x)
			before, weights := dump(h), dumpRats(w)
			z, to, e := do(h)
			want := show(z)
			for _, r := range rooms(z, to) {
				r.write()
			}
			if dump(h) != before || dumpRats(w) != weights {
				t.Fatalf("%s: an answer shares memory with an argument: %s", what, show(x))
			}
			again, to, f := do(h)
			if e != f || show(again) != want {
				t.Fatalf("%s: another answer the second time: %s", what, show(x))
			}
			checkApart(t, what, rooms(again, to))
		}
	}
}

// DOC.md's P2: lists are new memory each time.
func TestListsAreNew(t *testing.T) {
	at := nums("3 -1/2")
	for what, do := range map[string]func() string{
		"Live": func() string { l, _ := tape.Live(example()); s := fmt.Sprint(l); clear(all(l)); return s },
		"Uses": func() string { l, _ := tape.Uses(example()); s := fmt.Sprint(l); clear(all(l)); return s },
		"Depth": func() string {
			l, _ := tape.Depth(example())
			s := fmt.Sprint(l)
			for i := range all(l) {
				all(l)[i] = 9
			}
			return s
		},
		"Weigh": func() string { l, _ := tape.Weigh(example(), at, nil); s := fmt.Sprint(l); clear(all(l)); return s },
	} {
		if first := do(); do() != first {
			t.Errorf("%s: another answer the second time", what)
		}
	}
}

// DOC.md's P2: a number that stands at two places of a tape is two in an answer.
func TestSharedConstants(t *testing.T) {
	c := num("-12345678901234567890/7")
	x := api.Tape{Ops: []api.Op{{Kind: api.OpConst, C: c}, {Kind: api.OpConst, C: c}, two(api.OpAdd, 0, 1)}, Outs: []int{2, 0}}
	z, to, _ := tape.Trim(x)
	checkApart(t, "Trim", rooms(z, to))
	z, to, _ = tape.Merge(x)
	checkApart(t, "Merge", rooms(z, to))
	z, _ = tape.Cut(x, 0)
	checkApart(t, "Cut", rooms(z, nil))
	z, _ = tape.Blend(x, []api.Rat{c, c})
	checkApart(t, "Blend", rooms(z, nil))
}

// DOC.md's P1: no call panics, whatever it is given.
func TestNoPanic(t *testing.T) {
	t.Parallel()
	odd := []int{math.MinInt, math.MinInt + 1, -1025, -1, 0, 1, 2, 3, 9, 64, 65, 2048, 1 << 40, math.MaxInt}
	numbers := append(wrongNumbers(), num("1"), num("-2/3"))
	d := dice(14)
	some := func() []api.Rat {
		var l []api.Rat
		for range d.next(4) {
			l = append(l, pick(&d, numbers...))
		}
		return l
	}
	for i := range 5000 {
		x := api.Tape{Inputs: pick(&d, odd...)}
		for range d.next(5) {
			x.Ops = append(x.Ops, api.Op{Kind: api.Kind(pick(&d, odd...)), A: pick(&d, odd...), B: pick(&d, odd...), N: pick(&d, odd...), C: pick(&d, numbers...)})
		}
		for range d.next(3) {
			x.Outs = append(x.Outs, pick(&d, odd...))
		}
		if i%2 == 0 {
			x = d.raw()
		}
		at, e := plainCheck(x)
		wantCheck(t, fmt.Sprint("tape ", i), x, at, e)
		tape.Blend(x, some())
		tape.Cut(x, pick(&d, odd...))
		tape.Weigh(x, some(), some())
		tape.Large(x, some(), some())
		tape.LargeSum(x, some(), some(), some())
		tape.Print(x)
	}
	for c := range 256 {
		s := string([]byte{byte(c)})
		for _, text := range []string{s, "inputs " + s, "inputs 1\n" + s, "inputs 1\nin 0" + s, "inputs 1\nin 0\nout 0\n" + s, strings.Repeat(s, 65536), strings.Repeat(s, 65537), "inputs 1\n" + strings.Repeat("in 0"+s, 10000), "inputs 1\nconst " + strings.Repeat(s, 60000) + "\n", "inputs 1\nconst 1/" + strings.Repeat(s, 19000) + "\n"} {
			tape.Parse(text)
		}
	}
}
