package formula_test

import (
	"fmt"
	"slices"
	"strings"
	"testing"

	"slope/api"
	"slope/formula"
)

// meaning is the first fault of meaning of a text whose form is right, found by going over its tokens without a tree.
type meaning struct {
	tokens []string
	places []int
	values map[string]bool
	funcs  map[string]int
	made   map[string]bool
	inputs int
	outs   int
	at     int
	err    api.Errno
}

// note keeps the fault at token i, if none is kept.
func (m *meaning) note(i int, e api.Errno) {
	if m.err == api.OK {
		m.at, m.err = m.places[i], e
	}
}

// fresh notes a name that was made already.
func (m *meaning) fresh(i int) {
	if m.made[m.tokens[i]] {
		m.note(i, api.ErrTwice)
	}
	m.made[m.tokens[i]] = true
}

// isNamed tells whether token i is a name.
func (m *meaning) isNamed(i int) bool {
	s := m.tokens[i]
	return word.MatchString(s) && !slices.Contains([]string{"in", "fn", "let", "out", "sum", "prod"}, s)
}

// kids counts what stands in the brackets that are opened by token i.
func (m *meaning) kids(i int) int {
	if m.tokens[i+1] == ")" {
		return 0
	}
	n, deep := 1, 0
	for ; ; i++ {
		switch m.tokens[i] {
		case "(":
			deep++
		case ")":
			deep--
		case ",":
			if deep == 1 {
				n++
			}
		}
		if deep == 0 {
			return n
		}
	}
}

// used looks at the name that is token i.
func (m *meaning) used(i int, values map[string]bool) {
	s := m.tokens[i]
	if m.tokens[i+1] != "(" {
		if !values[s] {
			m.note(i, api.ErrName)
		}
		return
	}
	if n, ok := m.funcs[s]; !ok {
		m.note(i, api.ErrName)
	} else if n != m.kids(i+1) {
		m.note(i, api.ErrCount)
	}
}

// line looks at the line of the tokens from i to end, its end.
func (m *meaning) line(i, end int) {
	head := i
	values := m.values
	switch m.tokens[head] {
	case "in":
		for i++; i < end; i += 2 {
			if m.inputs++; m.inputs > 64 {
				m.note(i, api.ErrInputs)
			}
			m.fresh(i)
			m.values[m.tokens[i]] = true
		}
		return
	case "let":
		m.fresh(i + 1)
		i += 3
	case "fn":
		m.fresh(i + 1)
		values = map[string]bool{}
		n := 0
		for i += 3; m.tokens[i] != "="; i++ {
			if !m.isNamed(i) {
				continue
			}
			if n++; n > 64 {
				m.note(i, api.ErrCount)
			}
			if values[m.tokens[i]] {
				m.note(i, api.ErrTwice)
			}
			values[m.tokens[i]] = true
		}
		defer func() { m.funcs[m.tokens[head+1]] = n }()
	}
	deep := 0
	for ; i < end; i++ {
		deep += strings.Count(m.tokens[i], "(") - strings.Count(m.tokens[i], ")")
		if m.isNamed(i) {
			m.used(i, values)
		}
		if m.tokens[i] == "out" || m.tokens[head] == "out" && m.tokens[i] == "," && deep == 0 {
			if m.outs++; m.outs > 64 {
				m.note(i+1, api.ErrOutputs)
			}
		}
	}
	if m.tokens[head] == "let" {
		m.values[m.tokens[head+1]] = true
	}
}

// plainMeaning is the first fault of meaning.
func plainMeaning(text string) (int, api.Errno) {
	tokens, places, _, _ := plainTokens(text)
	m := meaning{tokens: tokens, places: places, values: map[string]bool{}, funcs: map[string]int{}, made: map[string]bool{}}
	head := 0
	for i, s := range tokens {
		if s == "\n" {
			m.line(head, i)
			head = i + 1
		}
	}
	return m.at, m.err
}

// text is an expression at random, its names often without a meaning.
func (d *dice) text(deep int) string {
	names := []string{"x", "y", "u", "v", "a", "f"}
	funcs := []string{"f", "g", "h", "x"}
	if deep == 0 {
		return pick(d, "1", pick(d, names...), pick(d, names...))
	}
	list := func(n int) string {
		var l []string
		for range n {
			l = append(l, d.text(deep-1))
		}
		return "(" + strings.Join(l, ", ") + ")"
	}
	switch d.next(6) {
	case 0:
		return d.text(deep-1) + pick(d, " + ", "-", " *", "/ ") + d.text(deep-1)
	case 1:
		return "-(" + d.text(deep-1) + ")^2"
	case 2:
		return pick(d, "sum", "prod") + list(d.next(3))
	case 3:
		return d.text(0)
	}
	return pick(d, funcs...) + list(d.next(3))
}

// lines is a text of a few lines at random, of the right form.
func (d *dice) lines() string {
	pool := []string{"x", "y", "u", "v", "f", "g", "h", "a"}
	var l []string
	for range 2 + d.next(8) {
		switch d.next(5) {
		case 0:
			l = append(l, "in "+strings.Join(pool[d.next(4):4+d.next(2)], ", "))
		case 1, 2:
			params := []string{"a", "x", "f", pick(d, "y", "a")}[:d.next(5)]
			l = append(l, fmt.Sprintf("fn %s(%s) = %s", pick(d, "f", "g", "h", "h2"), strings.Join(params, ","), d.text(d.next(3))))
		case 3:
			l = append(l, fmt.Sprintf("let %s = %s", pick(d, "u", "v", "w", "x"), d.text(d.next(3))))
		case 4:
			l = append(l, "out "+d.text(d.next(3))+", "+d.text(d.next(2)))
		}
	}
	return strings.Join(append(l, "out 1"), "\n")
}

// P4.2: faults of meaning at random.
func TestParseMeaningAtRandom(t *testing.T) {
	t.Parallel()
	d := dice(3)
	seen := map[api.Errno]int{}
	for range 20000 {
		text := d.lines()
		wantAt, want := plainMeaning(text)
		_, at, e := formula.Parse(text)
		if e != want || at != wantAt {
			t.Fatalf("Parse(%q): place %d, error %d, want place %d, error %d", text, at, e, wantAt, want)
		}
		seen[e]++
	}
	for _, e := range []api.Errno{api.OK, api.ErrTwice, api.ErrName, api.ErrCount} {
		if seen[e] < 100 {
			t.Errorf("error %d was met %d times", e, seen[e])
		}
	}
}

// P4.2: the faults of too many, between others.
func TestParseTooManyAtRandom(t *testing.T) {
	t.Parallel()
	d := dice(4)
	for range 1000 {
		ins := strings.Split(numbered(58+d.next(10)), ", ")
		outs := slices.Repeat([]string{"1"}, 58+d.next(10))
		params := strings.Split(numbered(58+d.next(10)), ", ")
		for _, l := range [][]string{ins, outs, params} {
			if d.next(3) == 0 {
				l[d.next(len(l))] = "n3"
			}
			if d.next(4) == 0 {
				l[len(l)-1] = "zz"
			}
		}
		lines := []string{"in " + strings.Join(ins, ", "), "out " + strings.Join(outs, ", "), "fn f(" + strings.Join(params, ",") + ") = n0", "let u = n3", "in u", "out zz, u"}
		for i := range lines {
			j := d.next(i + 1)
			lines[i], lines[j] = lines[j], lines[i]
		}
		text := strings.Join(lines, "\n")
		wantAt, want := plainMeaning(text)
		if _, at, e := formula.Parse(text); e != want || at != wantAt {
			t.Fatalf("Parse(%q): place %d, error %d, want place %d, error %d", text, at, e, wantAt, want)
		}
	}
}
