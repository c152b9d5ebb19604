package record

import "slope/api"

// came is what a model's node came to: a node of the tape, or, with Fold, a constant.
type came struct {
	node  int
	fixed bool
	c     api.Rat // the constant, if it is one
}

// style is a way of recording.
type style struct {
	// bring makes a node or a constant of an operation over what its kids came to.
	bring func(op api.Op, of ...came) came
	// tree makes one of a list, by an operation over two.
	tree func(l []came, join func(a, b came) came) came
}

// roll is a tape's nodes while they are being laid down.
type roll struct {
	ops []api.Op
}

// styleOf is a way of recording on a roll.
func styleOf(way api.Way, r *roll) style {
	s := style{bring: r.lay, tree: chain[came]}
	if way.Fold {
		s.bring = r.fold
	}
	if way.Balance {
		s.tree = balanced[came]
	}
	return s
}

// recorded is a model's tape; its work is at most MaxUnroll.
func recorded(m api.Model, way api.Way) (api.Tape, api.Errno) {
	r := &roll{}
	inputs := make([]came, len(m.Inputs))
	for i := range inputs {
		inputs[i] = r.put(api.Op{Kind: api.OpInput, A: i})
	}
	s := styleOf(way, r)
	w := newWalk(m, way.Copy, inputs, func(x api.Expr, kids []came) (came, api.Errno) {
		z := s.build(x, kids)
		return z, r.fault()
	})
	var outs []int
	for _, n := range m.Outs {
		z, e := w.output(n)
		if e != api.OK {
			return api.Tape{}, e
		}
		outs = append(outs, r.laid(z))
	}
	if e := r.fault(); e != api.OK {
		return api.Tape{}, e
	}
	return api.Tape{Inputs: len(m.Inputs), Ops: r.ops, Outs: outs}, api.OK
}

// build is what a node comes to over what its kids came to.
func (s style) build(x api.Expr, kids []came) came {
	switch x.Kind {
	case api.ExprSum, api.ExprProd:
		if len(kids) == 0 {
			return s.bring(api.Op{Kind: api.OpConst, C: unit(x.Kind)})
		}
		return s.tree(kids, func(a, b came) came { return s.bring(api.Op{Kind: kindOf(x.Kind)}, a, b) })
	}
	return s.bring(api.Op{Kind: kindOf(x.Kind), N: x.N, C: x.Num}, kids...)
}

// fault tells whether there are too many nodes.
func (r *roll) fault() api.Errno {
	if len(r.ops) > api.MaxNodes {
		return api.ErrNodes
	}
	return api.OK
}

// put lays a node down as it is.
func (r *roll) put(op api.Op) came {
	op.C = copyRat(op.C)
	r.ops = append(r.ops, op)
	return came{node: len(r.ops) - 1}
}

// laid is the node of what something came to; a constant is laid down for it.
func (r *roll) laid(z came) int {
	if z.fixed {
		z = r.put(api.Op{Kind: api.OpConst, C: z.c})
	}
	return z.node
}

// lay makes a node of an operation; constants that it works on are laid down ahead of it.
func (r *roll) lay(op api.Op, of ...came) came {
	if len(of) > 0 {
		op.A = r.laid(of[0])
	}
	if len(of) > 1 {
		op.B = r.laid(of[1])
	}
	return r.put(op)
}

// fold makes a constant of an operation over constants, where layer 2 answers one; else a node.
func (r *roll) fold(op api.Op, of ...came) came {
	if op.Kind == api.OpConst {
		return came{fixed: true, c: op.C}
	}
	var l []api.Rat
	for _, z := range of {
		if !z.fixed {
			return r.lay(op, of...)
		}
		l = append(l, z.c)
	}
	if c, e := reckon(op.Kind, op.N, l...); e == api.OK {
		return came{fixed: true, c: c}
	}
	return r.lay(op, of...)
}
