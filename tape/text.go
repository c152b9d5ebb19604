package tape

import (
	"iter"
	"strconv"
	"strings"

	"slope/api"
	"slope/rational"
)

// maxWhole is where whole numbers of a text stop growing: no field may be as great.
const maxWhole = 1 << 40

// Words that begin lines beside those of nodes.
const (
	wordInputs = "inputs"
	wordOut    = "out"
)

// lines are those of a tape's text, each with its newline.
func lines(t api.Tape) iter.Seq[string] {
	return func(yield func(string) bool) {
		if !yield(lineOf(wordInputs, t.Inputs)) {
			return
		}
		for i := range t.Ops {
			if !yield(opLine(t.Ops[i])) {
				return
			}
		}
		for _, n := range t.Outs {
			if !yield(lineOf(wordOut, n)) {
				return
			}
		}
	}
}

// lineOf is a line of a word and whole numbers.
func lineOf(word string, l ...int) string {
	for _, n := range l {
		word += " " + strconv.Itoa(n)
	}
	return word + "\n"
}

// opLine is a node's line.
func opLine(op api.Op) string {
	s := shapeOf(op.Kind)
	switch {
	case s.c:
		c, _ := rational.Print(op.C)
		return s.word + " " + c + "\n"
	case s.b:
		return lineOf(s.word, op.A, op.B)
	case s.n:
		return lineOf(s.word, op.A, op.N)
	}
	return lineOf(s.word, op.A)
}

// read takes a text's lines; beside false the number of the first that is none.
func read(s string) (api.Tape, int, bool) {
	var t api.Tape
	rest, at := s, 0
	// A text without a line is refused as its first one.
	for at == 0 || rest != "" {
		line, behind, ended := strings.Cut(rest, "\n")
		if !ended || !take(&t, strings.Split(line, " "), at) {
			return api.Tape{}, at, false
		}
		rest = behind
		at++
	}
	return t, 0, true
}

// take lays what a line of that number says into the tape; false: it is none of the forms, or can't stand there.
func take(t *api.Tape, words []string, at int) bool {
	switch {
	case at == 0:
		n, ok := readField(words, wordInputs)
		t.Inputs = n
		return ok
	case words[0] == wordOut:
		n, ok := readField(words, wordOut)
		t.Outs = append(t.Outs, n)
		return ok
	case len(t.Outs) > 0:
		return false
	}
	op, ok := readOp(words)
	t.Ops = append(t.Ops, op)
	return ok
}

// readField reads that word and a whole number.
func readField(words []string, word string) (int, bool) {
	if len(words) != 2 || words[0] != word {
		return 0, false
	}
	return readWhole(words[1])
}

// readOp reads a node's line.
func readOp(words []string) (api.Op, bool) {
	kind, known := kindOf(words[0])
	if !known || len(words) != shapeOf(kind).words() {
		return api.Op{}, false
	}
	op, s := api.Op{Kind: kind}, shapeOf(kind)
	var first bool
	second := true
	switch {
	case s.c:
		op.C, first = readConst(words[1])
	case s.b:
		op.A, first = readWhole(words[1])
		op.B, second = readWhole(words[2])
	case s.n:
		op.A, first = readWhole(words[1])
		op.N, second = readSigned(words[2])
	default:
		op.A, first = readWhole(words[1])
	}
	return op, first && second
}

// words is how many stand on a line of the kind.
func (s shape) words() int {
	if s.b || s.n {
		return 3
	}
	return 2
}

// kindOf is the kind whose lines begin with that word.
func kindOf(word string) (api.Kind, bool) {
	for k := api.OpInput; isKind(k); k++ {
		if shapeOf(k).word == word {
			return k, true
		}
	}
	return 0, false
}

// readWhole reads digits without a leading zero.
func readWhole(s string) (int, bool) {
	if s == "" || len(s) > 1 && s[0] == '0' {
		return 0, false
	}
	n := 0
	for i := range len(s) {
		if s[i] < '0' || s[i] > '9' {
			return 0, false
		}
		n = min(10*n+int(s[i]-'0'), maxWhole)
	}
	return n, true
}

// readSigned reads a whole number that may have a - ahead, if it is not 0.
func readSigned(s string) (int, bool) {
	size, minus := strings.CutPrefix(s, "-")
	n, ok := readWhole(size)
	if !minus {
		return n, ok
	}
	return -n, ok && n != 0
}

// readConst reads a number just as it is printed, and in no other way.
func readConst(s string) (api.Rat, bool) {
	r, _, e := rational.Parse(s)
	if e != api.OK {
		return api.Rat{}, false
	}
	told, _ := rational.Print(r)
	return r, told == s
}
