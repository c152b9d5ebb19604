package formula_test

import (
	"fmt"
	"slices"
	"strings"
	"testing"

	"slope/api"
	"slope/formula"
	"slope/rational"
)

// dice throws numbers that are the same in every run.
type dice uint64

func (d *dice) next(n int) int {
	*d = *d*6364136223846793005 + 1442695040888963407
	return int(uint32(*d>>32)) % n
}

// pick is one of a list.
func pick[T any](d *dice, l ...T) T { return l[d.next(len(l))] }

// num reads a number.
func num(s string) api.Rat {
	r, _, e := rational.Parse(s)
	if e != api.OK {
		panic(s)
	}
	return r
}

// Nodes by hand.
func number(s string) api.Expr { return api.Expr{Kind: api.ExprNumber, Num: num(s)} }
func name(s string) api.Expr   { return api.Expr{Kind: api.ExprName, Name: s} }
func power(n, kid int) api.Expr {
	return api.Expr{Kind: api.ExprPow, N: n, Kids: []int{kid}}
}
func op(kind api.ExprKind, kids ...int) api.Expr { return api.Expr{Kind: kind, Kids: kids} }
func call(s string, kids ...int) api.Expr {
	return api.Expr{Kind: api.ExprCall, Name: s, Kids: kids}
}

// same tells whether two models are written in the same way; nil and empty lists are the same.
func same(a, b api.Model) bool { return show(a) == show(b) }

// show is a model for comparing and for messages.
func show(m api.Model) string {
	var s strings.Builder
	fmt.Fprintf(&s, "inputs %q funcs", m.Inputs)
	for _, f := range m.Funcs {
		fmt.Fprintf(&s, " %q%q:%d", f.Name, f.Params, f.Body)
	}
	fmt.Fprintf(&s, " lets")
	for _, l := range m.Lets {
		fmt.Fprintf(&s, " %q:%d", l.Name, l.Body)
	}
	fmt.Fprintf(&s, " outs %d nodes", m.Outs)
	for i, x := range m.Nodes {
		fmt.Fprintf(&s, " %d(%d %q %v %x/%x %d %d)", i, x.Kind, x.Name, x.Num.Neg, []uint32(x.Num.Num), []uint32(x.Num.Den), x.N, x.Kids)
	}
	return s.String()
}

// short is the beginning of a long message.
func short(s string) string {
	if len(s) > 300 {
		return s[:300] + fmt.Sprintf(".. (%d bytes)", len(s))
	}
	return s
}

// must reads a text that is one.
func must(t *testing.T, text string) api.Model {
	t.Helper()
	m, at, e := formula.Parse(text)
	if e != api.OK || at != 0 {
		t.Fatalf("Parse(%q): place %d, error %d", short(text), at, e)
	}
	return m
}

// wantModel fails if the text is not read as that model.
func wantModel(t *testing.T, text string, want api.Model) {
	t.Helper()
	m, at, e := formula.Parse(text)
	if e != api.OK || at != 0 || !same(m, want) {
		t.Errorf("Parse(%q): %s, place %d, error %d, want %s", short(text), short(show(m)), at, e, short(show(want)))
	}
}

// wantFault fails if the text is not refused so.
func wantFault(t *testing.T, text string, at int, e api.Errno) {
	t.Helper()
	m, gotAt, got := formula.Parse(text)
	if gotAt != at || got != e || !same(m, api.Model{}) {
		t.Errorf("Parse(%q): place %d, error %d, want place %d, error %d and no model", short(text), gotAt, got, at, e)
	}
}

// part is a node with its kids, the test's own way to write a formula.
type part struct {
	x    api.Expr // without kids
	kids []*part
}

// body is a function (with parameters) or a let.
type body struct {
	name   string
	params []string
	top    *part
}

// sketch is a model in parts.
type sketch struct {
	inputs []string
	funcs  []body
	lets   []body
	outs   []*part
}

// tops are all bodies and outputs, in the order of a text's nodes.
func (s sketch) tops() []*part {
	var l []*part
	for _, b := range slices.Concat(s.funcs, s.lets) {
		l = append(l, b.top)
	}
	return append(l, s.outs...)
}

// parts are all parts, kids ahead, in the order of a text's nodes.
func (s sketch) parts() []*part {
	var l []*part
	var walk func(p *part)
	walk = func(p *part) {
		for _, k := range p.kids {
			walk(k)
		}
		l = append(l, p)
	}
	for _, p := range s.tops() {
		walk(p)
	}
	return l
}

// numbered is the model with its nodes in that order.
func (s sketch) numbered(order []*part) api.Model {
	at := map[*part]int{}
	m := api.Model{Inputs: slices.Clone(s.inputs)}
	for i, p := range order {
		at[p] = i
		x := p.x
		for _, k := range p.kids {
			x.Kids = append(x.Kids, at[k])
		}
		m.Nodes = append(m.Nodes, x)
	}
	for _, f := range s.funcs {
		m.Funcs = append(m.Funcs, api.Func{Name: f.name, Params: slices.Clone(f.params), Body: at[f.top]})
	}
	for _, l := range s.lets {
		m.Lets = append(m.Lets, api.Let{Name: l.name, Body: at[l.top]})
	}
	for _, p := range s.outs {
		m.Outs = append(m.Outs, at[p])
	}
	return m
}

// tidy is the model numbered as a text's is.
func (s sketch) tidy() api.Model { return s.numbered(s.parts()) }

// mixed is the model numbered at random, kids ahead.
func (s sketch) mixed(d *dice) api.Model {
	left := s.parts()
	done := map[*part]bool{}
	var order []*part
	for len(left) > 0 {
		i := d.next(len(left))
		if slices.ContainsFunc(left[i].kids, func(k *part) bool { return !done[k] }) {
			continue
		}
		done[left[i]] = true
		order = append(order, left[i])
		left = slices.Delete(left, i, i+1)
	}
	return s.numbered(order)
}

// place is what can be named and called in a body.
type place struct {
	values []string
	funcs  []body
}

// part is one at random, about that deep at the most.
func (d *dice) part(here place, deep int) *part {
	kinds := []api.ExprKind{
		api.ExprNumber, api.ExprName, api.ExprNeg, api.ExprAdd, api.ExprSub, api.ExprMul, api.ExprDiv,
		api.ExprPow, api.ExprSum, api.ExprProd, api.ExprCall,
	}
	if deep == 0 {
		kinds = kinds[:2]
	}
	p := &part{x: api.Expr{Kind: pick(d, kinds...)}}
	count := 0
	switch p.x.Kind {
	case api.ExprName:
		if len(here.values) == 0 {
			p.x.Kind = api.ExprSum
			return p
		}
		p.x.Name = pick(d, here.values...)
	case api.ExprNumber:
		p.x.Num = num(pick(d, "0", "1", "2", "17", "-1", "1/2", "-22/7", "4294967296", "-4294967297/4294967296", "1000000000000000000000"))
	case api.ExprNeg:
		count = 1
	case api.ExprPow:
		count = 1
		p.x.N = pick(d, 0, 1, 2, -1, -2, 17, 1024, -1024)
	case api.ExprSum, api.ExprProd:
		count = d.next(4)
	case api.ExprCall:
		if len(here.funcs) == 0 {
			p.x.Kind = api.ExprProd
			return p
		}
		f := pick(d, here.funcs...)
		p.x.Name = f.name
		count = len(f.params)
	default:
		count = 2
	}
	for range count {
		p.kids = append(p.kids, d.part(here, deep-1))
	}
	return p
}

// sketch is one at random.
func (d *dice) sketch(deep int) sketch {
	var s sketch
	pool := []string{"x", "y", "_", "in1", "Out", "summe", "f", "g", "let_", "a9", strings.Repeat("n", 31), "u", "v", "w"}
	fresh := func() string {
		i := d.next(len(pool))
		n := pool[i]
		pool = slices.Delete(pool, i, i+1)
		return n
	}
	for range d.next(4) {
		s.inputs = append(s.inputs, fresh())
	}
	for range d.next(4) {
		f := body{name: fresh()}
		params := []string{"x", "f", "g", "p", "q", f.name + ""}
		slices.Sort(params)
		params = slices.Compact(params)
		for range d.next(4) {
			i := d.next(len(params))
			f.params = append(f.params, params[i])
			params = slices.Delete(params, i, i+1)
		}
		f.top = d.part(place{f.params, s.funcs}, deep)
		s.funcs = append(s.funcs, f)
	}
	values := slices.Clone(s.inputs)
	for range d.next(4) {
		l := body{name: fresh(), top: d.part(place{values, s.funcs}, deep)}
		s.lets = append(s.lets, l)
		values = append(values, l.name)
	}
	for range 1 + d.next(3) {
		s.outs = append(s.outs, d.part(place{values, s.funcs}, deep))
	}
	return s
}
