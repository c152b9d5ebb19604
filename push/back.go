package push

import (
	"slope/api"
	"slope/sparse"
	"slope/tape"
)

// back is what the way back through a tape has come to.
type back struct {
	tape     api.Tape
	live     []bool
	values   []api.Rat
	adjoints []api.Rat
	web      web
}

// turn is a node that is done.
type turn struct {
	kind
	node     int
	nodes    []int     // its operands,
	x        []api.Rat // their values,
	partials []api.Rat // and the derivatives by them
}

// backOf stands behind the tape's last node.
func backOf(t api.Tape, values []api.Rat, w []api.Rat) *back {
	b := &back{tape: t, live: sure(tape.Live(t)), values: values, adjoints: zeros(len(t.Ops)), web: webOf(t)}
	for i, n := range t.Outs {
		b.adjoints[n] = sum(b.adjoints[n], w[i])
	}
	return b
}

// down takes the steps for each node that is done, from the last one to upto.
func (b *back) down(upto int, steps ...func(t turn)) {
	for v := len(b.tape.Ops) - 1; v >= upto; v-- {
		if !b.live[v] || b.tape.Ops[v].Kind == api.OpInput {
			continue
		}
		t := b.turn(v)
		for _, step := range steps {
			step(t)
		}
	}
}

// turn is that of a node.
func (b *back) turn(v int) turn {
	t := turn{kind: kindOf(b.tape.Ops[v]), node: v}
	t.nodes = t.operands()
	for _, n := range t.nodes {
		t.x = append(t.x, b.values[n])
	}
	for i := range t.nodes {
		t.partials = append(t.partials, t.partial(i, t.x))
	}
	return t
}

// handDown gives the operands their parts of the node's adjoint.
func (b *back) handDown(t turn) {
	for i, n := range t.nodes {
		b.adjoints[n] = sum(b.adjoints[n], product(t.partials[i], b.adjoints[t.node]))
	}
}

// pushEdges hands the node's edges down to its operands, with those that it makes.
func (b *back) pushEdges(t turn) {
	self := whole(0)
	var others []link
	for _, l := range b.web.take(t.node) {
		switch {
		case l.other == t.node:
			self = l.val
		case !isZero(l.val):
			others = append(others, l)
		}
	}
	for i, n := range t.nodes {
		b.pushOthers(others, n, t.partials[i])
	}
	for i := range t.nodes {
		for j := i; j < len(t.nodes); j++ {
			b.join(t, i, j, self)
		}
	}
}

// pushOthers hands a node's edges with other nodes down to its operand n, by which its derivative is p.
func (b *back) pushOthers(others []link, n int, p api.Rat) {
	if isZero(p) {
		return
	}
	var own []link
	for _, l := range others {
		m := link{b.web.between(n, l.other), product(p, l.val)}
		if l.other == n {
			m.val = product(whole(2), m.val)
		}
		if m.first == n {
			own = append(own, m)
		} else {
			b.web.grow(m)
		}
	}
	b.web.grow(own...)
}

// join lays between operands i and j what the node's edge with itself gives them,
// and what the node makes. The two go in as one number: together they are a
// second derivative, alone each may have more bits than one.
func (b *back) join(t turn, i, j int, self api.Rat) {
	var x, y []api.Rat
	if !isZero(self) {
		x, y = append(x, product(t.partials[i], t.partials[j])), append(y, self)
	}
	if a := b.adjoints[t.node]; !isZero(a) {
		x, y = append(x, t.second(i, j, t.x)), append(y, a)
	}
	if d := dot(x, y); !isZero(d) {
		b.web.grow(link{b.web.between(t.nodes[i], t.nodes[j]), d})
	}
}

// matrix is what stands between the inputs, on the places where anything does.
func (b *back) matrix() api.Matrix {
	var rs, cs []int
	var vals []api.Rat
	put := func(r, c int, v api.Rat) {
		rs, cs, vals = append(rs, r), append(cs, c), append(vals, v)
	}
	for _, list := range b.web.lists {
		for _, l := range list {
			j, k := b.tape.Ops[l.first].A, b.tape.Ops[l.other].A
			put(j, k, l.val)
			// Of one input at two nodes this is its own place once more: it counts twice.
			if l.first != l.other {
				put(k, j, l.val)
			}
		}
	}
	return sure(sparse.FromEntries(b.tape.Inputs, b.tape.Inputs, rs, cs, vals))
}

// gradient is the inputs' sums of their nodes' adjoints, in new memory.
func (b *back) gradient() []api.Rat {
	z := zeros(b.tape.Inputs)
	for n, op := range b.tape.Ops {
		if op.Kind == api.OpInput {
			z[op.A] = sum(z[op.A], b.adjoints[n])
		}
	}
	return copyRats(z)
}
