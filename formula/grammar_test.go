package formula_test

import (
	"slices"
	"strings"
	"testing"

	"slope/api"
	"slope/formula"
)

// grammar is the chapter's, of one line without its end; what is no key is a token.
var grammar = map[string][]string{
	"line":    {"in names", "out sums", "let name = sum", "fn name ( ) = sum", "fn name ( names ) = sum"},
	"names":   {"name", "names , name"},
	"sums":    {"sum", "sums , sum"},
	"sum":     {"product", "sum + product", "sum - product"},
	"product": {"signed", "product * signed", "product / signed"},
	"signed":  {"- signed", "power"},
	"power":   {"atom", "atom ^ digits", "atom ^ - digits"},
	"atom":    {"digits", "number", "name", "name ( )", "name ( sums )", "SUM ( )", "SUM ( sums )", "PROD ( )", "PROD ( sums )", "( sum )"},
}

// terminals are all tokens of the grammar, each with one as it stands in a text.
var terminals = map[string]string{
	"in": "in", "out": "out", "let": "let", "fn": "fn", "SUM": "sum", "PROD": "prod", "name": "x", "digits": "2", "number": "1.5",
	",": ",", "=": "=", "+": "+", "-": "-", "*": "*", "/": "/", "^": "^", "(": "(", ")": ")",
}

// item is a rule of the grammar that is read up to dot, begun at token from.
type item struct {
	left, right string
	dot, from   int
}

// follow is what stands behind the dot; "": nothing.
func (i item) follow() string {
	l := strings.Fields(i.right)
	if i.dot == len(l) {
		return ""
	}
	return l[i.dot]
}

// closed are the items that hang on those of the newest of the sets.
func closed(sets [][]item) []item {
	last := len(sets) - 1
	l := sets[last]
	add := func(i item) {
		if !slices.Contains(l, i) {
			l = append(l, i)
		}
	}
	for n := 0; n < len(l); n++ {
		i := l[n]
		if rules, ok := grammar[i.follow()]; ok {
			for _, r := range rules {
				add(item{i.follow(), r, 0, last})
			}
		}
		if i.follow() == "" {
			for _, j := range sets[i.from] {
				if j.follow() == i.left {
					j.dot++
					add(j)
				}
			}
		}
	}
	return l
}

// begun are the sets ahead of a line's first token.
func begun() [][]item {
	sets := [][]item{nil}
	for _, r := range grammar["line"] {
		sets[0] = append(sets[0], item{"line", r, 0, 0})
	}
	sets[0] = closed(sets)
	return sets
}

// step are the sets behind one more token; nil: it can't stand there.
func step(sets [][]item, token string) [][]item {
	var next []item
	for _, i := range sets[len(sets)-1] {
		if i.follow() == token {
			i.dot++
			next = append(next, i)
		}
	}
	if next == nil {
		return nil
	}
	sets = append(slices.Clone(sets), next)
	sets[len(sets)-1] = closed(sets)
	return sets
}

// whole tells whether the line may end there.
func whole(sets [][]item) bool {
	return slices.ContainsFunc(sets[len(sets)-1], func(i item) bool { return i.left == "line" && i.follow() == "" && i.from == 0 })
}

// isForm tells whether it is a fault of form or of tokens.
func isForm(e api.Errno) bool {
	return slices.Contains([]api.Errno{api.ErrWant, api.ErrDeep, api.ErrEnds, api.ErrByte, api.ErrNumber, api.ErrTokens, api.ErrText}, e)
}

// P4.2: all lines of a few tokens are read, or refused at the token that can't stand there, as the grammar says.
func TestParseByGrammar(t *testing.T) {
	t.Parallel()
	tokens := make([]string, 0, len(terminals))
	for s := range terminals {
		tokens = append(tokens, s)
	}
	slices.Sort(tokens)
	var grow func(sets [][]item, text string, most int)
	grow = func(sets [][]item, text string, most int) {
		_, at, e := formula.Parse(text)
		switch {
		case !whole(sets):
			if e != api.ErrWant || at != len(text) {
				t.Errorf("Parse(%q): place %d, error %d: the line's end can't stand there", text, at, e)
			}
		case !strings.HasPrefix(text, "out"):
			if e != api.ErrEnds || at != len(text) {
				t.Errorf("Parse(%q): place %d, error %d: there is no out line", text, at, e)
			}
		case isForm(e):
			t.Errorf("Parse(%q): place %d, error %d: it is a line", text, at, e)
		}
		if most == 0 {
			return
		}
		for _, s := range tokens {
			more := text + " " + terminals[s]
			if next := step(sets, s); next != nil {
				grow(next, more, most-1)
			} else if _, at, e := formula.Parse(more + " ( ^"); e != api.ErrWant || at != len(text)+1 {
				t.Errorf("Parse(%q): place %d, error %d: its last token can't stand there", more, at, e)
			}
		}
	}
	for _, s := range tokens {
		if next := step(begun(), s); next != nil {
			grow(next, terminals[s], 6)
		} else {
			wantFault(t, terminals[s], 0, api.ErrWant)
		}
	}
}

// P4.2: long lines at random, as the grammar says.
func TestParseByGrammarAtRandom(t *testing.T) {
	d := dice(2)
	tokens := []string{"name", "name", "digits", "number", "(", ")", ")", ",", "+", "-", "*", "/", "^", "SUM", "PROD", "="}
	for range 1500 {
		sets, text := step(begun(), "out"), "out"
		for range 5 + d.next(25) {
			s := pick(&d, tokens...)
			more := text + pick(&d, " ", "\t", " \r ") + terminals[s]
			next := step(sets, s)
			if next == nil {
				if _, at, e := formula.Parse(more + pick(&d, "", " )", "\nin", "\nout 1", " # c")); e != api.ErrWant || at != len(more)-len(terminals[s]) {
					t.Errorf("Parse(%q): place %d, error %d: its last token can't stand there", more, at, e)
				}
				continue
			}
			sets, text = next, more
		}
		_, at, e := formula.Parse(text + "# c\nout 1")
		if !whole(sets) && (e != api.ErrWant || at != len(text)+3) || whole(sets) && isForm(e) {
			t.Errorf("Parse(%q): place %d, error %d", text, at, e)
		}
	}
}
