package record_test

import (
	"fmt"
	"strings"
	"testing"

	"slope/api"
	"slope/formula"
	"slope/rational"
	"slope/record"
)

// item is what a node came to in a plain working out.
type item struct {
	node  int
	value *api.Rat // nil, if it is a node
}

// frame is a call that is being worked out, or what is outside all of them.
type frame struct {
	params []string
	kids   []int
	around *frame
	came   map[string]item
}

// plain works a model out step by step, as the chapter's words say it, and counts the steps.
type plain struct {
	m      api.Model
	way    api.Way
	steps  int
	t      api.Tape
	outer  *frame
	number bool // in numbers, not in nodes
	at     []api.Rat
	fault  api.Errno
}

// over tells whether there is no use in going on.
func (p *plain) over() bool {
	return p.fault != api.OK || p.steps > api.MaxUnroll || len(p.t.Ops) > 3*api.MaxNodes
}

func (p *plain) lay(op api.Op) item {
	p.t.Ops = append(p.t.Ops, op)
	return item{node: len(p.t.Ops) - 1}
}

// constant is a number of the model.
func (p *plain) constant(c api.Rat) item {
	if p.way.Fold || p.number {
		return item{value: &c}
	}
	return p.lay(api.Op{Kind: api.OpConst, C: c})
}

// operation is one over one or two.
func (p *plain) operation(kind api.ExprKind, n int, l []item) item {
	kinds := map[api.ExprKind]api.Kind{api.ExprNeg: api.OpNeg, api.ExprAdd: api.OpAdd, api.ExprSub: api.OpSub, api.ExprMul: api.OpMul, api.ExprDiv: api.OpDiv, api.ExprPow: api.OpPow}
	if p.over() {
		return item{}
	}
	if l[0].value != nil && l[len(l)-1].value != nil {
		a, b := *l[0].value, *l[len(l)-1].value
		var z api.Rat
		var e api.Errno
		switch kind {
		case api.ExprNeg:
			z, e = rational.Neg(a)
		case api.ExprAdd:
			z, e = rational.Add(a, b)
		case api.ExprSub:
			z, e = rational.Sub(a, b)
		case api.ExprMul:
			z, e = rational.Mul(a, b)
		case api.ExprDiv:
			z, e = rational.Div(a, b)
		case api.ExprPow:
			z, e = rational.Pow(a, n)
		}
		if e == api.OK {
			return item{value: &z}
		}
		if p.number {
			p.fault = e
			return item{}
		}
	}
	var numbers []int
	for _, x := range l {
		if x.value != nil {
			x = p.lay(api.Op{Kind: api.OpConst, C: *x.value})
		}
		numbers = append(numbers, x.node)
	}
	op := api.Op{Kind: kinds[kind], A: numbers[0], N: n}
	if len(numbers) == 2 {
		op.B = numbers[1]
	}
	return p.lay(op)
}

// many is a sum or product of many that are worked out.
func (p *plain) many(kind api.ExprKind, l []item) item {
	for len(l) > 1 && !(p.way.Balance && len(l) > 2) {
		l = append([]item{p.operation(kind, 0, l[:2])}, l[2:]...)
	}
	if len(l) == 1 {
		return l[0]
	}
	half := len(l)/2 + len(l)%2
	first := p.many(kind, l[:half:half])
	rest := p.many(kind, l[half:])
	return p.operation(kind, 0, []item{first, rest})
}

// node is what a node comes to.
func (p *plain) node(n int, f *frame) item {
	if p.steps++; p.over() {
		return item{}
	}
	x := p.m.Nodes[n]
	switch x.Kind {
	case api.ExprNumber:
		return p.constant(x.Num)
	case api.ExprName:
		return p.name(x.Name, f)
	case api.ExprCall:
		for _, fn := range p.m.Funcs {
			if fn.Name == x.Name {
				return p.node(fn.Body, &frame{fn.Params, x.Kids, f, map[string]item{}})
			}
		}
	}
	var l []item
	for _, kid := range x.Kids {
		l = append(l, p.node(kid, f))
	}
	switch {
	case x.Kind == api.ExprSum && len(l) == 0:
		return p.constant(rational.FromInt(0))
	case x.Kind == api.ExprProd && len(l) == 0:
		return p.constant(rational.FromInt(1))
	case x.Kind == api.ExprSum:
		return p.many(api.ExprAdd, l)
	case x.Kind == api.ExprProd:
		return p.many(api.ExprMul, l)
	}
	return p.operation(x.Kind, x.N, l)
}

// name is what a name comes to.
func (p *plain) name(name string, f *frame) item {
	if z, found := f.came[name]; found {
		return z
	}
	if f != p.outer {
		for i, s := range f.params {
			if s == name {
				f.came[name] = p.node(f.kids[i], f.around)
			}
		}
		return f.came[name]
	}
	for i, s := range p.m.Inputs {
		if s == name && p.number {
			return item{value: &p.at[i]}
		}
		if s == name {
			return item{node: i}
		}
	}
	for _, l := range p.m.Lets {
		if l.Name == name {
			z := p.node(l.Body, f)
			if !p.way.Copy {
				f.came[name] = z
			}
			return z
		}
	}
	panic(name)
}

// plainWork is the work, as far as it is told apart.
func plainWork(m api.Model, copies bool) int {
	p := &plain{m: m, way: api.Way{Copy: copies, Fold: true}, outer: &frame{came: map[string]item{}}}
	for _, n := range m.Outs {
		p.node(n, p.outer)
		p.t.Ops = nil // counting alone
	}
	return min(p.steps, api.MaxUnroll+1)
}

// plainRecord is a model's tape in a way.
func plainRecord(m api.Model, way api.Way) (api.Tape, api.Errno) {
	p := &plain{m: m, way: way, outer: &frame{came: map[string]item{}}}
	p.t.Inputs = len(m.Inputs)
	for i := range m.Inputs {
		p.lay(api.Op{Kind: api.OpInput, A: i})
	}
	for _, n := range m.Outs {
		z := p.node(n, p.outer)
		if z.value != nil {
			z = p.lay(api.Op{Kind: api.OpConst, C: *z.value})
		}
		p.t.Outs = append(p.t.Outs, z.node)
	}
	if p.steps > api.MaxUnroll || len(p.t.Ops) > api.MaxNodes {
		return api.Tape{}, api.ErrNodes
	}
	return p.t, api.OK
}

// plainValue are a model's values at a point.
func plainValue(m api.Model, at []api.Rat) ([]api.Rat, int, api.Errno) {
	p := &plain{m: m, number: true, at: at, outer: &frame{came: map[string]item{}}}
	var l []api.Rat
	for i, n := range m.Outs {
		z := p.node(n, p.outer)
		if p.fault == api.ErrZero {
			return nil, i, api.ErrPole
		}
		if p.fault != api.OK {
			return nil, i, p.fault
		}
		l = append(l, *z.value)
	}
	return l, 0, api.OK
}

// plainFlat is a node's text with everything put in its place, in brackets; "" if it gets too long.
func plainFlat(m api.Model, n int, params map[string]string) string {
	x := m.Nodes[n]
	var l []string
	for _, kid := range x.Kids {
		s := plainFlat(m, kid, params)
		if len(s) == 0 || len(s) > 20000 {
			return ""
		}
		l = append(l, s)
	}
	switch x.Kind {
	case api.ExprNumber:
		s, _ := rational.Print(x.Num)
		return "[" + s + "]"
	case api.ExprName:
		if params != nil {
			return params[x.Name]
		}
		for _, u := range m.Lets {
			if u.Name == x.Name {
				return plainFlat(m, u.Body, nil)
			}
		}
		return x.Name
	case api.ExprCall:
		for _, f := range m.Funcs {
			if f.Name == x.Name {
				put := map[string]string{}
				for i, p := range f.Params {
					put[p] = l[i]
				}
				return plainFlat(m, f.Body, put)
			}
		}
	case api.ExprNeg:
		return "(-" + l[0] + ")"
	case api.ExprPow:
		return fmt.Sprintf("(%s)^%d", l[0], x.N)
	case api.ExprSum:
		return "sum(" + strings.Join(l, ", ") + ")"
	case api.ExprProd:
		return "prod(" + strings.Join(l, ", ") + ")"
	}
	return "(" + l[0] + map[api.ExprKind]string{api.ExprAdd: "+", api.ExprSub: "-", api.ExprMul: "*", api.ExprDiv: "/"}[x.Kind] + l[1] + ")"
}

// plainFlatModel is a model without functions and lets, read from its text; false, if there is no such text.
func plainFlatModel(m api.Model) (api.Model, bool) {
	text := ""
	if len(m.Inputs) > 0 {
		text = "in " + strings.Join(m.Inputs, ", ") + "\n"
	}
	for _, n := range m.Outs {
		s := plainFlat(m, n, nil)
		if s == "" {
			return api.Model{}, false
		}
		text += "out " + s + "\n"
	}
	z, _, e := formula.Parse(text)
	return z, e == api.OK
}

// models are some at random.
func models(t *testing.T, seed dice, n int) []api.Model {
	t.Helper()
	d := seed
	var l []api.Model
	for len(l) < n {
		l = append(l, must(t, d.text()))
	}
	return l
}

// P6.1, P6.2: the work and the tapes of models of every kind are those of the plain way.
func TestPlainRecord(t *testing.T) {
	t.Parallel()
	nodes, folded, differ := 0, 0, 0
	for _, m := range models(t, 1, 3000) {
		wantWork(t, showModel(m), m, plainWork(m, false), plainWork(m, true))
		seen := map[string]bool{}
		for _, way := range record.Ways() {
			want, e := plainRecord(m, way)
			got, at, f := record.Record(m, way)
			if at != 0 || f != e || showTape(got) != showTape(want) {
				t.Fatalf("Record(%s, %v): %s, place %d, error %d, want %s, error %d", showModel(m), way, showTape(got), at, f, showTape(want), e)
			}
			nodes += len(got.Ops)
			seen[showTape(got)] = true
			for _, op := range got.Ops {
				if way.Fold && op.Kind == api.OpConst {
					folded++
				}
			}
		}
		if len(seen) == 8 {
			differ++
		}
	}
	if nodes < 100000 || folded < 10000 || differ < 50 {
		t.Errorf("too little was met: %d nodes, %d constants with Fold, %d models with eight tapes", nodes, folded, differ)
	}
}

// P6.3: values of models of every kind are those of the plain way, and so are their faults.
func TestPlainValue(t *testing.T) {
	t.Parallel()
	d := dice(3)
	met := map[api.Errno]int{}
	for _, m := range models(t, 2, 6000) {
		at := d.point(len(m.Inputs))
		want, place, e := plainValue(m, at)
		got, p, f := record.Value(m, at)
		if p != place || f != e || showRats(got) != showRats(want) {
			t.Fatalf("Value(%s, %s): %s, place %d, error %d, want %s, place %d, error %d", showModel(m), showRats(at), showRats(got), p, f, showRats(want), place, e)
		}
		met[f]++
		if f == api.ErrPole && p > 0 {
			met[-1]++
		}
	}
	if met[api.OK] < 1000 || met[api.ErrPole] < 500 || met[-1] < 100 {
		t.Errorf("too little was met: %v", met)
	}
}

// P6.4: a flat model is the one whose text has everything put in its place.
func TestPlainFlat(t *testing.T) {
	t.Parallel()
	held, large := 0, 0
	for _, m := range models(t, 4, 4000) {
		got, at, e := record.Flat(m)
		if e == api.ErrModel {
			large++
			continue
		}
		if at != 0 || e != api.OK {
			t.Fatalf("Flat(%s): place %d, error %d", showModel(m), at, e)
		}
		want, ok := plainFlatModel(m)
		if !ok {
			continue
		}
		held++
		if showModel(got) != showModel(want) {
			t.Fatalf("Flat(%s): %s, want %s", showModel(m), showModel(got), showModel(want))
		}
	}
	if held < 3500 {
		t.Errorf("only %d models were held against their texts, %d were too large", held, large)
	}
}
