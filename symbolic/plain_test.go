package symbolic_test

import (
	"fmt"
	"math/big"
	"slices"
	"sort"
	"strings"
	"testing"

	"slope/api"
	"slope/formula"
	"slope/rational"
	"slope/record"
	"slope/symbolic"
)

// plainSum is a normal form as the chapter's words have it.
type plainSum struct {
	c     *big.Rat
	terms []plainTerm
}

type plainTerm struct {
	c       *big.Rat
	factors []plainFactor
}

// plainFactor is a name, or a sum if there is no name, to a power.
type plainFactor struct {
	name string
	sum  plainSum
	n    int
}

// plainNumber is a sum without terms.
func plainNumber(c *big.Rat) plainSum { return plainSum{c: c} }

// base is a factor's text without its power.
func (f plainFactor) base() string {
	if f.name != "" {
		return f.name
	}
	return "(" + f.sum.text() + ")"
}

// part is the factors' part of a term.
func (t plainTerm) part() string {
	s := ""
	for _, f := range t.factors {
		s += "*" + f.base()
		if f.n != 1 {
			s += fmt.Sprint("^", f.n)
		}
	}
	return s
}

// text is a sum's text.
func (s plainSum) text() string {
	var l []string
	for _, t := range s.terms {
		l = append(l, t.c.RatString()+t.part())
	}
	if s.c.Sign() != 0 || len(l) == 0 {
		l = append(l, s.c.RatString())
	}
	return strings.Join(l, "+")
}

// limits are what is looked at when something is done.
type limits struct {
	pole, power bool
	numbers     []*big.Rat
}

// see keeps a number, which is looked at later on.
func (l *limits) see(c *big.Rat) *big.Rat {
	l.numbers = append(l.numbers, c)
	return c
}

// seePower keeps whether a power is none.
func (l *limits) seePower(n int) int {
	l.power = l.power || n < -api.MaxPower || n > api.MaxPower
	return n
}

// end is the sum that was made, or the first error that applies.
func (l *limits) end(s plainSum) (plainSum, api.Errno) {
	if l.pole {
		return plainSum{}, api.ErrPole
	}
	for _, c := range l.numbers {
		if c.Num().BitLen() > 32*api.MaxLimbs || c.Denom().BitLen() > 32*api.MaxLimbs {
			return plainSum{}, api.ErrBig
		}
	}
	if l.power {
		return plainSum{}, api.ErrPower
	}
	if len(s.text()) > api.MaxText {
		return plainSum{}, api.ErrText
	}
	return s, api.OK
}

// order puts terms in their order, and leaves those with the coefficient 0 out.
func order(terms []plainTerm) []plainTerm {
	parts := map[string]plainTerm{}
	var keys []string
	for _, t := range terms {
		if t.c.Sign() != 0 {
			parts[t.part()] = t
			keys = append(keys, t.part())
		}
	}
	sort.Strings(keys)
	var l []plainTerm
	for _, k := range keys {
		l = append(l, parts[k])
	}
	return l
}

func plainAdd(a, b plainSum) (plainSum, api.Errno) {
	var l limits
	c := l.see(new(big.Rat).Add(a.c, b.c))
	terms := slices.Clone(a.terms)
	places := map[string]int{}
	for i, t := range terms {
		places[t.part()] = i
	}
	for _, t := range b.terms {
		if i, like := places[t.part()]; like {
			terms[i].c = l.see(new(big.Rat).Add(terms[i].c, t.c))
		} else {
			terms = append(terms, t)
		}
	}
	return l.end(plainSum{c, order(terms)})
}

// monomial is the one term that a sum is or is taken for.
func (s plainSum) monomial() plainTerm {
	if len(s.terms) == 1 && s.c.Sign() == 0 {
		return s.terms[0]
	}
	return plainTerm{big.NewRat(1, 1), []plainFactor{{sum: s, n: 1}}}
}

// multiplied is a number times a sum.
func (s plainSum) multiplied(l *limits, c *big.Rat) plainSum {
	if c.Sign() == 0 {
		return plainNumber(new(big.Rat))
	}
	z := plainSum{c: l.see(new(big.Rat).Mul(c, s.c))}
	for _, t := range s.terms {
		z.terms = append(z.terms, plainTerm{l.see(new(big.Rat).Mul(c, t.c)), t.factors})
	}
	return z
}

// left is a coefficient and factors in any order, some perhaps with the power 0, as a sum.
func left(l *limits, c *big.Rat, factors []plainFactor) plainSum {
	var stay []plainFactor
	for _, f := range factors {
		if f.n != 0 {
			stay = append(stay, f)
		}
	}
	sort.Slice(stay, func(i, j int) bool { return stay[i].base() < stay[j].base() })
	if len(stay) == 0 {
		return plainNumber(c)
	}
	if len(stay) == 1 && stay[0].name == "" && stay[0].n == 1 {
		return stay[0].sum.multiplied(l, c)
	}
	return plainSum{new(big.Rat), []plainTerm{{c, stay}}}
}

func plainMul(a, b plainSum) (plainSum, api.Errno) {
	var l limits
	if len(a.terms) == 0 {
		return l.end(b.multiplied(&l, a.c))
	}
	if len(b.terms) == 0 {
		return l.end(a.multiplied(&l, b.c))
	}
	s, t := a.monomial(), b.monomial()
	c := l.see(new(big.Rat).Mul(s.c, t.c))
	factors := slices.Clone(s.factors)
	for _, f := range t.factors {
		i := slices.IndexFunc(factors, func(g plainFactor) bool { return g.base() == f.base() })
		if i < 0 {
			factors = append(factors, f)
		} else {
			factors[i].n = l.seePower(factors[i].n + f.n)
		}
	}
	return l.end(left(&l, c, factors))
}

// bigPow is a power; its size is told first, so that none is made that is too large by far.
func bigPow(c *big.Rat, n int) *big.Rat {
	if n < 0 {
		return bigPow(new(big.Rat).Inv(c), -n)
	}
	if n*(max(c.Num().BitLen(), c.Denom().BitLen())-1) > 40*api.MaxLimbs {
		return new(big.Rat).SetInt(new(big.Int).Lsh(big.NewInt(1), 40*api.MaxLimbs))
	}
	e := big.NewInt(int64(n))
	return new(big.Rat).SetFrac(new(big.Int).Exp(c.Num(), e, nil), new(big.Int).Exp(c.Denom(), e, nil))
}

func plainPow(a plainSum, n int) (plainSum, api.Errno) {
	var l limits
	switch {
	case n == 0:
		return plainNumber(big.NewRat(1, 1)), api.OK
	case n == 1:
		return a, api.OK
	case len(a.terms) == 0 && a.c.Sign() == 0 && n < 0:
		l.pole = true
		return l.end(a)
	case len(a.terms) == 0:
		return l.end(plainNumber(l.see(bigPow(a.c, n))))
	}
	t := a.monomial()
	c := l.see(bigPow(t.c, n))
	var factors []plainFactor
	for _, f := range t.factors {
		factors = append(factors, plainFactor{f.name, f.sum, l.seePower(f.n * n)})
	}
	return l.end(left(&l, c, factors))
}

func plainNeg(a plainSum) (plainSum, api.Errno) {
	return plainMul(plainNumber(big.NewRat(-1, 1)), a)
}

// plainDerive is a sum's derivative by an input.
func plainDerive(s plainSum, input string) (plainSum, api.Errno) {
	z := plainNumber(new(big.Rat))
	for _, t := range s.terms {
		d, e := plainDeriveTerm(t, input)
		if e != api.OK {
			return plainSum{}, e
		}
		if z, e = plainAdd(z, d); e != api.OK {
			return plainSum{}, e
		}
	}
	return z, api.OK
}

func plainDeriveTerm(t plainTerm, input string) (plainSum, api.Errno) {
	z := plainNumber(new(big.Rat))
	for i, f := range t.factors {
		var d plainSum
		var e api.Errno
		switch f.name {
		case "":
			d, e = plainDerive(f.sum, input)
		case input:
			d = plainNumber(big.NewRat(1, 1))
		default:
			d = plainNumber(new(big.Rat))
		}
		if e != api.OK {
			return plainSum{}, e
		}
		if d.text() == "0" {
			continue
		}
		var l limits
		c := l.see(new(big.Rat).Mul(t.c, big.NewRat(int64(f.n), 1)))
		factors := slices.Clone(t.factors)
		factors[i].n = l.seePower(f.n - 1)
		rest, e := l.end(left(&l, c, factors))
		if e == api.OK {
			d, e = plainMul(rest, d)
		}
		if e == api.OK {
			z, e = plainAdd(z, d)
		}
		if e != api.OK {
			return plainSum{}, e
		}
	}
	return z, api.OK
}

// frame is a call that is being worked out, or what is outside all of them.
type frame struct {
	params []string
	kids   []int
	around *frame
	came   map[string]plainSum
}

// plain works a model out step by step.
type plain struct {
	m     api.Model
	outer *frame
}

// newPlain is ready to work out a model; an input whose number is told in fix is that number.
func newPlain(m api.Model, fix map[int]api.Rat) *plain {
	p := &plain{m, &frame{came: map[string]plainSum{}}}
	for i, name := range m.Inputs {
		p.outer.came[name] = plainSum{new(big.Rat), []plainTerm{{big.NewRat(1, 1), []plainFactor{{name: name, n: 1}}}}}
		if c, fixed := fix[i]; fixed {
			p.outer.came[name] = plainNumber(bigOf(c))
		}
	}
	return p
}

// node is what a node comes to.
func (p *plain) node(n int, f *frame) (plainSum, api.Errno) {
	x := p.m.Nodes[n]
	switch x.Kind {
	case api.ExprNumber:
		return plainNumber(bigOf(x.Num)), api.OK
	case api.ExprName:
		return p.name(x.Name, f)
	case api.ExprCall:
		i := slices.IndexFunc(p.m.Funcs, func(g api.Func) bool { return g.Name == x.Name })
		return p.node(p.m.Funcs[i].Body, &frame{p.m.Funcs[i].Params, x.Kids, f, map[string]plainSum{}})
	}
	var l []plainSum
	for _, kid := range x.Kids {
		z, e := p.node(kid, f)
		if e != api.OK {
			return plainSum{}, e
		}
		l = append(l, z)
	}
	switch x.Kind {
	case api.ExprNeg:
		return plainNeg(l[0])
	case api.ExprAdd:
		return plainAdd(l[0], l[1])
	case api.ExprSub:
		b, e := plainNeg(l[1])
		if e != api.OK {
			return plainSum{}, e
		}
		return plainAdd(l[0], b)
	case api.ExprMul:
		return plainMul(l[0], l[1])
	case api.ExprDiv:
		b, e := plainPow(l[1], -1)
		if e != api.OK {
			return plainSum{}, e
		}
		return plainMul(l[0], b)
	case api.ExprPow:
		return plainPow(l[0], x.N)
	case api.ExprSum:
		return fromTheLeft(l, 0, plainAdd)
	}
	return fromTheLeft(l, 1, plainMul)
}

// fromTheLeft is what many come to, begun with the first; of none it is a number.
func fromTheLeft(l []plainSum, none int64, do func(a, b plainSum) (plainSum, api.Errno)) (plainSum, api.Errno) {
	if len(l) == 0 {
		return plainNumber(big.NewRat(none, 1)), api.OK
	}
	z := l[0]
	for _, s := range l[1:] {
		var e api.Errno
		if z, e = do(z, s); e != api.OK {
			return plainSum{}, e
		}
	}
	return z, api.OK
}

// name is what a name comes to.
func (p *plain) name(name string, f *frame) (plainSum, api.Errno) {
	if z, found := f.came[name]; found {
		return z, api.OK
	}
	var z plainSum
	var e api.Errno
	if f == p.outer {
		i := slices.IndexFunc(p.m.Lets, func(l api.Let) bool { return l.Name == name })
		z, e = p.node(p.m.Lets[i].Body, f)
	} else {
		z, e = p.node(f.kids[slices.Index(f.params, name)], f.around)
	}
	f.came[name] = z
	return z, e
}

// expression is a normal form as an expression of a model's text.
func (s plainSum) expression() string {
	var l []string
	for _, t := range s.terms {
		var k []string
		for _, f := range t.factors {
			b := f.name
			if b == "" {
				b = f.sum.expression()
			}
			if f.n != 1 {
				b += fmt.Sprint("^", f.n)
			}
			k = append(k, b)
		}
		if t.c.RatString() != "1" {
			k = append(k, "["+t.c.RatString()+"]")
		}
		l = append(l, alone("prod", k))
	}
	if s.c.Sign() != 0 || len(l) == 0 {
		l = append(l, "["+s.c.RatString()+"]")
	}
	return alone("sum", l)
}

// alone is a list's one item, or a sum or product of it.
func alone(word string, l []string) string {
	if len(l) == 1 {
		return l[0]
	}
	return word + "(" + strings.Join(l, ", ") + ")"
}

// plainModel is the model of these outputs; false, if its text can't be read, but for too many nodes.
func plainModel(inputs []string, outs []plainSum) (answer, bool) {
	var s strings.Builder
	if len(inputs) > 0 {
		fmt.Fprintf(&s, "in %s\n", strings.Join(inputs, ", "))
	}
	for _, o := range outs {
		fmt.Fprintf(&s, "out %s\n", o.expression())
	}
	m, _, e := formula.Parse(s.String())
	if e == api.ErrModel {
		return answer{e: e}, true
	}
	return answer{m: m, e: e}, e == api.OK
}

// hasNot tells whether there is no such number among so many.
func hasNot(i, count int) bool { return i < 0 || i >= count }

// early are the faults that are told ahead of all working out.
func (c call) early(m api.Model) (int, api.Errno) {
	if at, e := formula.Check(m); e != api.OK {
		return at, e
	}
	switch c.name {
	case "Diff":
		if hasNot(c.one, len(m.Inputs)) {
			return 0, api.ErrVariable
		}
	case "Gradient":
		if hasNot(c.one, len(m.Outs)) || len(m.Inputs) == 0 {
			return 0, api.ErrVariable
		}
	case "Second":
		if hasNot(c.one, len(m.Inputs)) || hasNot(c.two, len(m.Inputs)) {
			return 0, api.ErrVariable
		}
	case "Fix":
		if !rational.May(c.c) {
			return 0, api.ErrRat
		}
		if hasNot(c.one, len(m.Inputs)) {
			return 0, api.ErrVariable
		}
	}
	if n, _ := record.Work(m, api.Way{}); n > api.MaxUnroll {
		return 0, api.ErrNodes
	}
	return 0, api.OK
}

// sums are the normal forms that a call comes to.
func (c call) sums(m api.Model) ([]plainSum, int, api.Errno) {
	fix := map[int]api.Rat{}
	if c.name == "Fix" {
		fix[c.one] = c.c
	}
	p := newPlain(m, fix)
	var l []plainSum
	if c.name == "Gradient" {
		s, e := p.node(m.Outs[c.one], p.outer)
		if e != api.OK {
			return nil, 0, e
		}
		for i, name := range m.Inputs {
			d, e := plainDerive(s, name)
			if e != api.OK {
				return nil, i, e
			}
			l = append(l, d)
		}
		return l, 0, api.OK
	}
	for i, n := range m.Outs {
		s, e := p.node(n, p.outer)
		if e == api.OK && (c.name == "Diff" || c.name == "Second") {
			s, e = plainDerive(s, m.Inputs[c.one])
		}
		if e == api.OK && c.name == "Second" {
			s, e = plainDerive(s, m.Inputs[c.two])
		}
		if e != api.OK {
			return nil, i, e
		}
		l = append(l, s)
	}
	return l, 0, api.OK
}

// plain is what a call must answer; false, if the plain way can't tell.
func (c call) plain(m api.Model) (answer, bool) {
	if at, e := c.early(m); e != api.OK {
		return answer{at: at, e: e}, true
	}
	l, at, e := c.sums(m)
	if e != api.OK {
		return answer{at: at, e: e}, true
	}
	if c.name != "Text" {
		return plainModel(m.Inputs, l)
	}
	var texts []string
	for _, s := range l {
		texts = append(texts, s.text())
	}
	return answer{texts: texts}, true
}

// met counts what was met.
type met map[string]int

// hold holds a call against the plain way.
func (n met) hold(t *testing.T, m api.Model, c call) {
	t.Helper()
	want, sure := c.plain(m)
	if !sure {
		n["unsure"]++
		return
	}
	got := c.do(m)
	if got.show() != want.show() {
		t.Fatalf("%s(%s): %s, want %s", c.show(), told(m), short(got.show()), short(want.show()))
	}
	n[fmt.Sprint(c.name, " ", want.e)]++
	if want.at > 0 {
		n[fmt.Sprint("place of ", want.e)]++
	}
}

// least fails if something was met less often.
func (n met) least(t *testing.T, want met) {
	t.Helper()
	for what, count := range want {
		if n[what] < count {
			t.Errorf("too little was met: %s %d times; in all: %v", what, n[what], n)
		}
	}
}

// P15.1 to P15.4: what all calls answer of models of every kind is what the plain way answers.
func TestPlain(t *testing.T) {
	t.Parallel()
	n := met{}
	for _, m := range models(t, 1, tame, 3000) {
		for _, c := range calls(m) {
			n.hold(t, m, c)
		}
	}
	n.least(t, met{"Text 0": 2000, "Diff 0": 3000, "Gradient 0": 3000, "Second 0": 6000, "Fix 0": 3000, "Text 9": 200, "Diff 9": 250, "Fix 9": 250, "place of 9": 500})
	if n["unsure"] > 100 {
		t.Errorf("the plain way could not tell %d times", n["unsure"])
	}
}

// P15.1 to P15.4: likewise with numbers and powers near the limits.
func TestPlainLimits(t *testing.T) {
	t.Parallel()
	n := met{}
	for _, m := range models(t, 2, wild, 500) {
		for _, c := range calls(m) {
			n.hold(t, m, c)
		}
	}
	n.least(t, met{"Text 0": 200, "Diff 0": 300, "Text 2": 50, "Diff 2": 50, "Text 107": 20, "Diff 107": 40, "Second 107": 90, "Gradient 107": 30, "Fix 107": 20, "place of 107": 60, "place of 2": 50})
}

// P15.5: models are the same just if their plain texts and their inputs are.
func TestPlainSame(t *testing.T) {
	t.Parallel()
	d := dice(3)
	same, other, none := 0, 0, 0
	for range 4000 {
		a := must(t, d.text(tame))
		b := a
		switch d.next(4) {
		case 0:
			b = must(t, d.text(tame))
		case 1:
			if z, _, e := symbolic.Simplify(a); e == api.OK {
				b = z
			}
		case 2:
			// One output more or less, or all of them the other way round.
			b.Outs = slices.Clone(a.Outs)
			slices.Reverse(b.Outs)
		case 3:
			change := pick(&d, [2]string{"x + y", "y + x"}, [2]string{"x + y", "x + x"}, [2]string{"in x, y", "in y, x"}, [2]string{"in x, y", "in x, y, z"}, [2]string{"2 *", "1 * 2 *"}, [2]string{"2 *", "[-2] *"})
			a = must(t, "in x, y\nout x + y, x * y, 2 * (x + y)")
			b = must(t, strings.Replace("in x, y\nout x + y, x * y, 2 * (x + y)", change[0], change[1], 1+d.next(2)))
		}
		x, _ := call{name: "Text"}.plain(a)
		y, _ := call{name: "Text"}.plain(b)
		want := x.e == api.OK && y.e == api.OK && slices.Equal(a.Inputs, b.Inputs) && slices.Equal(x.texts, y.texts)
		if got := symbolic.Same(a, b); got != want {
			t.Fatalf("Same(%s, %s): %v, want %v", told(a), told(b), got, want)
		}
		switch {
		case want:
			same++
		case x.e != api.OK || y.e != api.OK:
			none++
		default:
			other++
		}
	}
	if same < 800 || other < 800 || none < 300 {
		t.Errorf("too little was met: %d the same, %d others, %d without texts", same, other, none)
	}
}
