package push

import "slope/api"

// kind is what a node is to the nodes that it uses; x are their values.
type kind interface {
	// operands are these nodes, each once, also where it stands at both places.
	operands() []int
	// partial is the derivative by operand i, of both its places together.
	partial(i int, x []api.Rat) api.Rat
	// second is the derivative by operands i and j, i at most j.
	second(i, j int, x []api.Rat) api.Rat
}

type (
	// linearKind adds up its operands times whole numbers; of none it is an input or a constant.
	linearKind struct{ nodes, factors []int }
	// productKind and quotientKind are of two nodes that are not the same.
	productKind  struct{ a, b int }
	quotientKind struct{ a, b int }
	powerKind    struct{ a, n int }
)

// kindOf is that of a tape's node.
func kindOf(op api.Op) kind {
	switch op.Kind {
	case api.OpInput, api.OpConst:
		return linearKind{}
	case api.OpNeg:
		return linearKind{[]int{op.A}, []int{-1}}
	case api.OpPow:
		return powerKind{op.A, op.N}
	}
	if op.A == op.B {
		return twiceKind(op)
	}
	return pairKind(op)
}

// twiceKind is that of a node that has one node at both places.
func twiceKind(op api.Op) kind {
	switch op.Kind {
	case api.OpAdd:
		return linearKind{[]int{op.A}, []int{2}}
	case api.OpMul:
		return powerKind{op.A, 2}
	}
	// What is 0 or 1 throughout, a - a and a / a, isn't moved by a.
	return linearKind{[]int{op.A}, []int{0}}
}

// pairKind is that of a node over two others.
func pairKind(op api.Op) kind {
	switch op.Kind {
	case api.OpAdd:
		return linearKind{[]int{op.A, op.B}, []int{1, 1}}
	case api.OpSub:
		return linearKind{[]int{op.A, op.B}, []int{1, -1}}
	case api.OpMul:
		return productKind{op.A, op.B}
	}
	return quotientKind{op.A, op.B}
}

func (k linearKind) operands() []int                    { return k.nodes }
func (k linearKind) partial(i int, _ []api.Rat) api.Rat { return whole(k.factors[i]) }
func (linearKind) second(_, _ int, _ []api.Rat) api.Rat { return whole(0) }

func (k productKind) operands() []int                  { return []int{k.a, k.b} }
func (productKind) partial(i int, x []api.Rat) api.Rat { return x[1-i] }

func (productKind) second(i, j int, _ []api.Rat) api.Rat {
	if i == j {
		return whole(0)
	}
	return whole(1)
}

func (k quotientKind) operands() []int { return []int{k.a, k.b} }

func (quotientKind) partial(i int, x []api.Rat) api.Rat {
	a, b := x[0], x[1]
	if i == 0 {
		return raised(b, -1)
	}
	return negative(product(a, raised(b, -2)))
}

func (quotientKind) second(i, j int, x []api.Rat) api.Rat {
	a, b := x[0], x[1]
	switch {
	case i == 1:
		return product(whole(2), product(a, raised(b, -3)))
	case j == 1:
		return negative(raised(b, -2))
	}
	return whole(0)
}

func (k powerKind) operands() []int { return []int{k.a} }

func (k powerKind) partial(_ int, x []api.Rat) api.Rat {
	// Of 0 there is no power -1: the factor 0 comes ahead of it.
	if k.n == 0 {
		return whole(0)
	}
	return product(whole(k.n), raised(x[0], k.n-1))
}

func (k powerKind) second(_, _ int, x []api.Rat) api.Rat {
	if k.n == 0 || k.n == 1 {
		return whole(0)
	}
	return product(whole(k.n*(k.n-1)), raised(x[0], k.n-2))
}
