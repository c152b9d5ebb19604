package formula

import (
	"slope/api"
	"slope/rational"
)

// reader reads tokens line by line. A fault of form leaves it by panic; the first fault of meaning is kept, for one of form may stand behind it.
type reader struct {
	tokens []token
	next   int
	deep   int // brackets that are open
	p      program
	made   names
	scope  scope
	wrong  fault // of meaning
}

// read is the program that tokens of a text of that size say, or the first fault: of form, else of meaning.
func read(tokens []token, size int) (p program, f fault) {
	defer func() {
		switch v := recover().(type) {
		case nil:
		case fault:
			p, f = program{}, v
		default:
			panic(v)
		}
	}()
	r := reader{tokens: tokens, made: names{}}
	for r.next < len(r.tokens) {
		r.line()
	}
	if len(r.p.outs) == 0 {
		panic(fault{size, api.ErrEnds})
	}
	if r.wrong.err != api.OK {
		return program{}, r.wrong
	}
	return r.p, fault{}
}

// note keeps a fault of meaning, if none is kept from further ahead in the text. Of one token that which is noted first is kept.
func (r *reader) note(t token, e api.Errno) {
	if r.wrong.err == api.OK || t.at < r.wrong.at {
		r.wrong = fault{t.at, e}
	}
}

// peek is the next token. There is one: a line's end is not gone past within a line.
func (r *reader) peek() token { return r.tokens[r.next] }

// sees tells whether the next token is that mark, word or line's end.
func (r *reader) sees(text string) bool { return r.peek().text == text }

// take goes past the next token.
func (r *reader) take() token {
	r.next++
	return r.tokens[r.next-1]
}

// refuse leaves the reader: the next token can't stand there.
func (r *reader) refuse() { panic(fault{r.peek().at, api.ErrWant}) }

// want takes that mark or line's end.
func (r *reader) want(text string) token {
	if !r.sees(text) {
		r.refuse()
	}
	return r.take()
}

// wantName takes a name.
func (r *reader) wantName() token {
	if r.peek().kind != tokenName {
		r.refuse()
	}
	return r.take()
}

// open takes a bracket.
func (r *reader) open() {
	t := r.want("(")
	if r.deep == api.MaxDeep {
		panic(fault{t.at, api.ErrDeep})
	}
	r.deep++
}

// shut takes the bracket's end.
func (r *reader) shut() {
	r.want(")")
	r.deep--
}

// list reads one or more with commas between.
func (r *reader) list(one func()) {
	one()
	for r.sees(",") {
		r.take()
		one()
	}
}

// listInBrackets reads none or more.
func (r *reader) listInBrackets(one func()) {
	r.open()
	if !r.sees(")") {
		r.list(one)
	}
	r.shut()
}

// line reads a line.
func (r *reader) line() {
	r.scope = scope{made: r.made, funcs: len(r.p.funcs), lets: len(r.p.lets)}
	switch r.peek().text {
	case "in":
		r.take()
		r.list(r.input)
	case "fn":
		r.take()
		r.function()
	case "let":
		r.take()
		r.let()
	case "out":
		r.take()
		r.list(r.output)
	default:
		r.refuse()
	}
	r.want(lineEnd)
}

// makeName adds a name that is being made.
func (r *reader) makeName(l names, t token, m meaning) {
	if e := l.add(t.text, m); e != api.OK {
		r.note(t, e)
	}
}

// input reads an input.
func (r *reader) input() {
	t := r.wantName()
	n := len(r.p.inputs)
	if n >= api.MaxInputs {
		r.note(t, api.ErrInputs)
	}
	r.makeName(r.made, t, meaning{kind: meansInput, index: n})
	r.p.inputs = append(r.p.inputs, t.text)
}

// function reads what stands behind fn.
func (r *reader) function() {
	t := r.wantName()
	f := function{name: t.text}
	params := names{}
	r.listInBrackets(func() {
		param := r.wantName()
		n := len(f.params)
		if n >= api.MaxInputs {
			r.note(param, api.ErrCount)
		}
		r.makeName(params, param, meaning{kind: meansParam, index: n})
		f.params = append(f.params, param.text)
	})
	r.makeName(r.made, t, meaning{kind: meansFunc, index: len(r.p.funcs), params: len(f.params)})
	r.want("=")
	r.scope.inFunc, r.scope.params = true, params
	f.body = r.sum()
	r.p.funcs = append(r.p.funcs, f)
}

// let reads what stands behind let.
func (r *reader) let() {
	t := r.wantName()
	r.makeName(r.made, t, meaning{kind: meansLet, index: len(r.p.lets)})
	r.want("=")
	r.p.lets = append(r.p.lets, value{t.text, r.sum()})
}

// output reads an output.
func (r *reader) output() {
	if len(r.p.outs) >= api.MaxOutputs {
		r.note(r.peek(), api.ErrOutputs)
	}
	r.p.outs = append(r.p.outs, r.sum())
}

// sum reads products with + and - between.
func (r *reader) sum() tree {
	t := r.product()
	for r.sees("+") || r.sees("-") {
		kind := pairKind(r.take().text)
		t = pair{kind, t, r.product()}
	}
	return t
}

// product reads what has signs or none, with * and / between.
func (r *reader) product() tree {
	t := r.signed()
	for r.sees("*") || r.sees("/") {
		kind := pairKind(r.take().text)
		t = pair{kind, t, r.signed()}
	}
	return t
}

// signed reads a power with any number of signs ahead.
func (r *reader) signed() tree {
	if !r.sees("-") {
		return r.power()
	}
	r.take()
	return negated{r.signed()}
}

// power reads an atom and the power to which it is raised, if there is one.
func (r *reader) power() tree {
	t := r.atom()
	if !r.sees("^") {
		return t
	}
	r.take()
	if !r.sees("-") {
		return raised{t, r.exponent()}
	}
	r.take()
	return raised{t, -r.exponent()}
}

// exponent reads digits alone of a value of at most MaxPower.
func (r *reader) exponent() int {
	t := r.peek()
	if t.kind != tokenNumber || digitsSize(t.text) < len(t.text) {
		r.refuse()
	}
	n, ok := rational.Int(t.value)
	if !ok || n > api.MaxPower {
		r.refuse()
	}
	r.take()
	return n
}

// atom reads what no operation is seen in from outside.
func (r *reader) atom() tree {
	switch t := r.peek(); {
	case t.kind == tokenNumber:
		return number{r.take().value}
	case t.kind == tokenName:
		return r.name()
	case t.text == "sum":
		r.take()
		return many{api.ExprSum, r.kids()}
	case t.text == "prod":
		r.take()
		return many{api.ExprProd, r.kids()}
	case t.text == "(":
		r.open()
		inner := r.sum()
		r.shut()
		return inner
	}
	r.refuse()
	return nil
}

// kids reads the kids of a call, a sum( ) or a prod( ).
func (r *reader) kids() []tree {
	var l []tree
	r.listInBrackets(func() { l = append(l, r.sum()) })
	return l
}

// name reads a name, or a call.
func (r *reader) name() tree {
	t := r.take()
	if r.sees("(") {
		return r.call(t)
	}
	if _, ok := r.scope.value(t.text); !ok {
		r.note(t, api.ErrName)
	}
	return named{t.text}
}

// call reads what stands behind the name of a call.
func (r *reader) call(t token) tree {
	f, ok := r.scope.function(t.text)
	if !ok {
		r.note(t, api.ErrName)
	}
	kids := r.kids()
	if ok && len(kids) != f.params {
		r.note(t, api.ErrCount)
	}
	return called{t.text, kids}
}

// pairKind is the kind of + - * /.
func pairKind(mark string) api.ExprKind {
	switch mark {
	case "+":
		return api.ExprAdd
	case "-":
		return api.ExprSub
	case "*":
		return api.ExprMul
	}
	return api.ExprDiv
}
