package record

import (
	"slices"

	"slope/api"
	"slope/rational"
)

// kindOf is the operation of a tape that a model's node stands for; a sum or product of many stands for several.
func kindOf(k api.ExprKind) api.Kind {
	switch k {
	case api.ExprNumber:
		return api.OpConst
	case api.ExprNeg:
		return api.OpNeg
	case api.ExprAdd, api.ExprSum:
		return api.OpAdd
	case api.ExprSub:
		return api.OpSub
	case api.ExprMul, api.ExprProd:
		return api.OpMul
	case api.ExprDiv:
		return api.OpDiv
	}
	return api.OpPow
}

// reckon is layer 2's answer to an operation over numbers.
func reckon(kind api.Kind, n int, of ...api.Rat) (api.Rat, api.Errno) {
	switch kind {
	case api.OpNeg:
		return rational.Neg(of[0])
	case api.OpAdd:
		return rational.Add(of[0], of[1])
	case api.OpSub:
		return rational.Sub(of[0], of[1])
	case api.OpMul:
		return rational.Mul(of[0], of[1])
	case api.OpDiv:
		return rational.Div(of[0], of[1])
	}
	return rational.Pow(of[0], n)
}

// unit is the sum or the product of none.
func unit(k api.ExprKind) api.Rat {
	if k == api.ExprProd {
		return rational.FromInt(1)
	}
	return rational.FromInt(0)
}

// values are a model's outputs at a point, or the number of the output that comes to something that is refused.
func values(m api.Model, at []api.Rat) ([]api.Rat, int, api.Errno) {
	w := newWalk(m, false, at, valueOf)
	var l []api.Rat
	for i, n := range m.Outs {
		z, e := w.output(n)
		if e == api.ErrZero {
			e = api.ErrPole
		}
		if e != api.OK {
			return nil, i, e
		}
		l = append(l, copyRat(z))
	}
	return l, 0, api.OK
}

// valueOf is the value of a node over its kids' values.
func valueOf(x api.Expr, kids []api.Rat) (api.Rat, api.Errno) {
	switch x.Kind {
	case api.ExprNumber:
		return x.Num, api.OK
	case api.ExprSum, api.ExprProd:
		return total(x.Kind, kids)
	}
	return reckon(kindOf(x.Kind), x.N, kids...)
}

// total is the sum or the product of many, from the left up to the first that is refused.
func total(k api.ExprKind, l []api.Rat) (api.Rat, api.Errno) {
	if len(l) == 0 {
		return unit(k), api.OK
	}
	fault := api.OK
	z := chain(l, func(a, b api.Rat) api.Rat {
		if fault != api.OK {
			return a
		}
		var z api.Rat
		z, fault = reckon(kindOf(k), 0, a, b)
		return z
	})
	return z, fault
}

// copyRat is a number in new memory.
func copyRat(r api.Rat) api.Rat {
	return api.Rat{Neg: r.Neg, Num: slices.Clone(r.Num), Den: slices.Clone(r.Den)}
}
