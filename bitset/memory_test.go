package bitset_test

import (
	"fmt"
	"math"
	"slices"
	"strings"
	"testing"

	"slope/api"
	"slope/bitset"
)

const mark = 0xa5a5a5a5a5a5a5a5

// roomy is a copy of a set with marked room behind its words.
func roomy(s api.Set) api.Set {
	n := len(s.Words)
	z := append(make([]uint64, 0, n+3), s.Words...)
	for i := range 3 {
		z[:cap(z)][n+i] = mark
	}
	return api.Set{Size: s.Size, Words: z}
}

// roomySets are such copies, with sets behind the list's end.
func roomySets(l []api.Set) []api.Set {
	z := make([]api.Set, 0, len(l)+2)
	for _, s := range l {
		z = append(z, roomy(s))
	}
	return append(z, api.Set{Size: -7, Words: []uint64{mark}}, roomy(set(9, 8)))[:len(l)]
}

// roomyInts is a copy with marked room behind its end.
func roomyInts(l []int) []int { return append(slices.Clone(l), -9, -8, -7)[:len(l)] }

// held is all that can be reached from what is handed in.
type held struct {
	a, b api.Set
	t, u api.Table
	to   []int
}

// arguments are new ones with the same contents each time.
func arguments(size int) held {
	d := dice(size + 1)
	a, b := d.set(size, 2), d.set(size, 3)
	t, u := d.table(size, size, 4), d.table(size, size, 9)
	to := make([]int, size)
	for i := range to {
		to[i] = d.next(size)
	}
	return held{
		a: roomy(a), b: roomy(b), to: roomyInts(to),
		t: api.Table{Size: size, Sets: roomySets(t.Sets)}, u: api.Table{Size: size, Sets: roomySets(u.Sets)},
	}
}

// printed is a text of all of it, rooms too.
func (h held) printed() string {
	text := fmt.Sprint(h.a.Size, h.a.Words[:cap(h.a.Words)], h.b.Size, h.b.Words[:cap(h.b.Words)], h.to[:cap(h.to)])
	for _, t := range []api.Table{h.t, h.u} {
		text += fmt.Sprint(t.Size)
		for _, s := range t.Sets[:cap(t.Sets)] {
			text += fmt.Sprint(s.Size, s.Words[:cap(s.Words)])
		}
	}
	return text
}

// calls are all calls that answer sets.
func calls() map[string]func(h held) (api.Set, api.Errno) {
	type answer = func(h held) (api.Set, api.Errno)
	m := map[string]answer{
		"Make":         func(h held) (api.Set, api.Errno) { return bitset.Make(h.a.Size, h.to...) },
		"Make of none": func(h held) (api.Set, api.Errno) { return bitset.Make(h.a.Size) },
		"Range":        func(h held) (api.Set, api.Errno) { return bitset.Range(h.a.Size, 0, 2) },
		"Put":          func(h held) (api.Set, api.Errno) { return bitset.Put(h.a, h.a.Size-1) },
		"Drop":         func(h held) (api.Set, api.Errno) { return bitset.Drop(h.a, h.a.Size-1) },
		"Minus":        func(h held) (api.Set, api.Errno) { return bitset.Minus(h.a, h.b) },
		"Differ":       func(h held) (api.Set, api.Errno) { return bitset.Differ(h.a, h.b) },
		"Rest":         func(h held) (api.Set, api.Errno) { return bitset.Rest(h.a) },
		"Move":         func(h held) (api.Set, api.Errno) { return bitset.Move(h.a, h.a.Size, h.to) },
		"Parse": func(h held) (api.Set, api.Errno) {
			s, _, err := bitset.Parse(fmt.Sprintf("%d:%s", h.a.Size, map[bool]string{true: "0"}[h.a.Size > 0]))
			return s, err
		},
	}
	for _, n := range []int{0, 1, -64, 4096} {
		m[fmt.Sprint("Shift by ", n)] = func(h held) (api.Set, api.Errno) { return bitset.Shift(h.a, n) }
	}
	for name, call := range map[string]func(int, ...api.Set) (api.Set, api.Errno){"Union": bitset.Union, "Inter": bitset.Inter} {
		m[name+" of none"] = func(h held) (api.Set, api.Errno) { return call(h.a.Size) }
		m[name+" of one"] = func(h held) (api.Set, api.Errno) { return call(h.a.Size, h.a) }
		m[name+" of two"] = func(h held) (api.Set, api.Errno) { return call(h.a.Size, h.a, h.b) }
		m[name+" of many"] = func(h held) (api.Set, api.Errno) { return call(h.a.Size, h.t.Sets...) }
	}
	return m
}

// tableCalls are all calls that answer tables.
func tableCalls() map[string]func(h held) (api.Table, api.Errno) {
	type answer = func(h held) (api.Table, api.Errno)
	return map[string]answer{
		"MakeTable":       func(h held) (api.Table, api.Errno) { return bitset.MakeTable(h.t.Size, h.t.Sets...) },
		"MakeTable twice": func(h held) (api.Table, api.Errno) { return bitset.MakeTable(h.a.Size, h.a, h.a, h.b) },
		"Turn":            func(h held) (api.Table, api.Errno) { return bitset.Turn(h.t) },
		"Product":         func(h held) (api.Table, api.Errno) { return bitset.Product(h.t, h.u) },
		"Square":          func(h held) (api.Table, api.Errno) { return bitset.Product(h.t, h.t) },
		"Both":            func(h held) (api.Table, api.Errno) { return bitset.Both(h.t) },
		"Closure":         func(h held) (api.Table, api.Errno) { return bitset.Closure(h.t) },
	}
}

// listCalls are all calls that answer numbers.
func listCalls() map[string]func(h held) []int {
	return map[string]func(h held) []int{
		"Elements": func(h held) []int { return bitset.Elements(h.a) },
		"All":      func(h held) []int { return slices.Collect(bitset.All(h.a)) },
		"Falling":  func(h held) []int { return slices.Collect(bitset.Falling(h.a)) },
		"Firsts":   func(h held) []int { l, _ := bitset.Firsts(h.t); return l },
		"Cover":    func(h held) []int { l, _ := bitset.Cover(h.t, h.t.Sets[0]); return l },
		"places": func(h held) []int {
			e := h.a.Size / 2
			return append([]int{bitset.Count(h.a), bitset.Compare(h.a, h.b)}, bitset.Rank(h.a, e), bitset.Select(h.a, 1), bitset.Next(h.a, e), bitset.Last(h.a, e))
		},
		"tells": func(h held) []int {
			l := []int{}
			for i, holds := range []bool{bitset.May(h.a), bitset.MayTable(h.t), bitset.Has(h.a, 1), bitset.Equal(h.a, h.b), bitset.Subset(h.a, h.b), bitset.Disjoint(h.a, h.b)} {
				if holds {
					l = append(l, i)
				}
			}
			text, _ := bitset.Print(h.a)
			return append(l, len(text))
		},
	}
}

// scrawl writes over a list and the room behind its end.
func scrawl(words []uint64) {
	for i := range words[:cap(words)] {
		words[:cap(words)][i] ^= mark
	}
}

// checkSets calls, scrawls over one set of the answer after the other, and looks at what else has changed.
func checkSets(t *testing.T, name string, size int, call func(h held) []api.Set) {
	t.Helper()
	h := arguments(size)
	before := h.printed()
	l := call(h)
	var was []api.Set
	for _, s := range l {
		was = append(was, set(s.Size, numbers(s)...))
	}
	for i := range l {
		for j := i; j < len(l); j++ {
			if !same(l[j], was[j]) {
				t.Fatalf("%s: two sets of an answer share memory", name)
			}
		}
		scrawl(l[i].Words)
	}
	for i := range l[:cap(l)] {
		l[:cap(l)][i] = api.Set{}
	}
	if h.printed() != before {
		t.Fatalf("%s: an argument was changed, or shares memory with an answer", name)
	}
	if !slices.EqualFunc(call(h), was, same) {
		t.Fatalf("%s: another answer the second time", name)
	}
}

// P3.14
func TestArgumentsStayAndAnswersAreNew(t *testing.T) {
	for _, size := range []int{1, 5, 64, 65, 130} {
		for name, call := range calls() {
			if _, err := call(arguments(size)); err != api.OK {
				t.Errorf("%s of %d: error %d", name, size, err)
			}
			checkSets(t, name, size, func(h held) []api.Set { s, _ := call(h); return []api.Set{s} })
		}
		for name, call := range tableCalls() {
			if _, err := call(arguments(size)); err != api.OK {
				t.Errorf("%s of %d: error %d", name, size, err)
			}
			checkSets(t, name, size, func(h held) []api.Set { u, _ := call(h); return u.Sets })
		}
	}
}

// P3.14: the lists of numbers.
func TestArgumentsStayAndListsAreNew(t *testing.T) {
	for _, size := range []int{1, 5, 64, 65, 130} {
		for name, call := range listCalls() {
			h := arguments(size)
			before := h.printed()
			l := call(h)
			was := slices.Clone(l)
			for i := range l[:cap(l)] {
				l[:cap(l)][i] = -5
			}
			if h.printed() != before {
				t.Errorf("%s: an argument was changed", name)
			}
			if !slices.Equal(call(h), was) {
				t.Errorf("%s: another answer the second time", name)
			}
		}
	}
}

// P3.14: an answer that is written over changes no later one, and appending to a set's words none beside it.
func TestRoomOfTablesIsTheirOwn(t *testing.T) {
	for name, call := range tableCalls() {
		u, _ := call(arguments(65))
		var was []api.Set
		for _, s := range u.Sets {
			was = append(was, set(s.Size, numbers(s)...))
		}
		for _, s := range u.Sets {
			_ = append(s.Words, mark, mark, mark)
		}
		if !slices.EqualFunc(u.Sets, was, same) {
			t.Errorf("%s: the room behind one set is another's", name)
		}
	}
}

// P3.14: nil and empty lists are the same.
func TestNilAndEmpty(t *testing.T) {
	a, b := api.Set{}, api.Set{Words: []uint64{}}
	rule(t, "Equal of nil and empty", bitset.Equal(a, b) && bitset.Compare(a, b) == 0 && bitset.May(b))
	l, err := bitset.Firsts(api.Table{Sets: []api.Set{a, b}})
	rule(t, "Firsts of nil and empty", err == api.OK && slices.Equal(l, []int{0, 0}))
	s, err := bitset.Move(b, 3, []int{})
	wantSet(t, "Move", s, err, set(3))
	u, err := bitset.Closure(api.Table{Sets: []api.Set{}})
	wantTable(t, "Closure", u, err, api.Table{})
}

// P3.14: no call panics, whatever it is given.
func TestNoPanic(t *testing.T) {
	sets := append(wrong(), set(0), set(1, 0), set(64, 63), set(65, 64), set(4096, 0, 4095))
	for _, s := range sets {
		for _, n := range odd() {
			places(s, n)
			bitset.Has(s, n)
			bitset.Put(s, n)
			bitset.Drop(s, n)
			bitset.Shift(s, n)
			bitset.Make(n, n, 0)
			bitset.Range(n, n, s.Size)
			bitset.Union(n, s)
			bitset.Inter(n, s)
			bitset.Move(s, n, nil)
			bitset.Move(s, n, slices.Repeat([]int{n}, 65))
			bitset.Move(s, 3, slices.Repeat([]int{n}, max(0, min(s.Size, 4096))))
			bitset.MakeTable(n, s, s)
		}
		for _, u := range sets {
			told(s, u)
			bitset.Compare(s, u)
			bitset.Minus(s, u)
			bitset.Differ(s, u)
		}
		bitset.Rest(s)
		bitset.Print(s)
		bitset.Elements(s)
		bitset.Cover(table(s.Size, s, s), s)
	}
	tables := append(wrongTables(), rowsOf(0, 0), rowsOf(0, 3), rowsOf(3, 0), rowsOf(1, 1))
	for _, a := range tables {
		bitset.MayTable(a)
		bitset.Turn(a)
		bitset.Firsts(a)
		bitset.Both(a)
		bitset.Closure(a)
		for _, b := range tables {
			bitset.Product(a, b)
		}
		bitset.Cover(a, set(3, 1))
	}
	for c := range 256 {
		bitset.Parse(string([]byte{byte(c)}))
		bitset.Parse("1:" + string([]byte{byte(c)}))
		bitset.Parse(strings.Repeat(string([]byte{byte(c)}), 70000))
	}
	bitset.Union(math.MaxInt, sets...)
	bitset.Inter(math.MinInt, sets...)
}
