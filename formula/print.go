package formula

import (
	"strconv"

	"slope/api"
	"slope/natural"
	"slope/rational"
)

// How tightly trees bind; what binds less tightly than its place asks for stands in brackets.
const (
	bindSum = iota
	bindProduct
	bindSign
	bindPower
	bindAtom
)

// binding is how tightly a tree binds.
func binding(t tree) int {
	switch t := t.(type) {
	case pair:
		if t.kind == api.ExprAdd || t.kind == api.ExprSub {
			return bindSum
		}
		return bindProduct
	case negated:
		return bindSign
	case raised:
		return bindPower
	}
	return bindAtom
}

// printer writes a program's text, and notes what is too much of it.
type printer struct {
	text    []byte
	tokens  int
	deep    int
	tooDeep bool
	most    api.Nat // 10 to the power MaxDigits
	tooLong bool    // a number's digits
}

// text is a program's text.
func (p program) text() (string, api.Errno) {
	most, _ := natural.Pow(natural.From(10), api.MaxDigits)
	w := &printer{most: most}
	w.program(p)
	switch {
	case w.tooDeep:
		return "", api.ErrDeep
	case w.tooLong:
		return "", api.ErrNumber
	case w.tokens > api.MaxTokens:
		return "", api.ErrTokens
	case w.full():
		return "", api.ErrText
	}
	return string(w.text), api.OK
}

// full tells whether the text is too long already.
func (w *printer) full() bool { return len(w.text) > api.MaxText }

// token writes a token, with the blanks that stand beside it. A text that is full is not written on, for it may get long.
func (w *printer) token(s string) {
	w.tokens++
	if !w.full() {
		w.text = append(w.text, s...)
	}
}

// program writes line by line.
func (w *printer) program(p program) {
	if len(p.inputs) > 0 {
		w.token("in ")
		writeList(w, p.inputs, w.token)
		w.token(lineEnd)
	}
	for _, f := range p.funcs {
		w.token("fn ")
		w.token(f.name)
		writeInBrackets(w, f.params, w.token)
		w.equals(f.body)
	}
	for _, v := range p.lets {
		w.token("let ")
		w.token(v.name)
		w.equals(v.body)
	}
	w.token("out ")
	writeList(w, p.outs, w.tree)
	w.token(lineEnd)
}

// equals writes what a function or a let is, to the line's end.
func (w *printer) equals(body tree) {
	w.token(" = ")
	w.tree(body)
	w.token(lineEnd)
}

// writeList writes all of a list with commas between.
func writeList[T any](w *printer, l []T, one func(T)) {
	for i, x := range l {
		if i > 0 {
			w.token(", ")
		}
		one(x)
	}
}

// writeInBrackets writes a list in brackets.
func writeInBrackets[T any](w *printer, l []T, one func(T)) {
	w.open()
	writeList(w, l, one)
	w.shut()
}

// open writes a bracket.
func (w *printer) open() {
	if w.deep >= api.MaxDeep {
		w.tooDeep = true
	}
	w.deep++
	w.token("(")
}

// shut writes the bracket's end.
func (w *printer) shut() {
	w.deep--
	w.token(")")
}

// tree writes a tree without brackets around it.
func (w *printer) tree(t tree) {
	switch t := t.(type) {
	case number:
		w.number(t.value)
	case named:
		w.token(t.name)
	case negated:
		w.token("-")
		w.kid(t.kid, bindSign)
	case pair:
		// What binds as tightly may stand ahead without brackets, but not behind: chains go from the left.
		b := binding(t)
		w.kid(t.left, b)
		w.token(pairMark(t.kind))
		w.kid(t.right, b+1)
	case raised:
		w.kid(t.kid, bindAtom)
		w.exponent(t.n)
	case many:
		w.token(manyWord(t.kind))
		writeInBrackets(w, t.list, w.tree)
	case called:
		w.token(t.name)
		writeInBrackets(w, t.list, w.tree)
	}
}

// kid writes a tree, in brackets if it binds less tightly than that.
func (w *printer) kid(t tree, least int) {
	if binding(t) >= least {
		w.tree(t)
		return
	}
	w.open()
	w.tree(t)
	w.shut()
}

// exponent writes a power.
func (w *printer) exponent(n int) {
	w.token("^")
	if n < 0 {
		w.token("-")
		n = -n
	}
	w.token(strconv.Itoa(n))
}

// number writes a number. What would be too much anyway is counted, but its digits are not worked out: they take long.
func (w *printer) number(r api.Rat) {
	plain := !r.Neg && natural.Cmp(r.Den, natural.From(1)) == 0
	if plain && natural.Cmp(r.Num, w.most) >= 0 {
		w.tooLong = true
	}
	s := ""
	if !w.tooLong && !w.full() {
		s, _ = rational.Print(r)
	}
	if !plain {
		s = "[" + s + "]"
	}
	w.token(s)
}

// pairMark is the mark of + - * / with its blanks.
func pairMark(kind api.ExprKind) string {
	switch kind {
	case api.ExprAdd:
		return " + "
	case api.ExprSub:
		return " - "
	case api.ExprMul:
		return " * "
	}
	return " / "
}

// manyWord is the word of a sum( ) or prod( ).
func manyWord(kind api.ExprKind) string {
	if kind == api.ExprSum {
		return "sum"
	}
	return "prod"
}
