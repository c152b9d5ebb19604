package push_test

import (
	"math/big"

	"slope/api"
)

// jet is the coefficients of a polynomial in two letters that are 0 when squared: of 1, s, s' and s * s'.
type jet [4]*big.Rat

// jetOf is a number without letters.
func jetOf(c *big.Rat) jet {
	return jet{c, new(big.Rat), new(big.Rat), new(big.Rat)}
}

// moved is a jet to which letters are added: 1 is s, 2 is s', 3 is both.
func (a jet) moved(letters int) jet {
	z := a
	for _, i := range []int{1, 2} {
		if letters&i != 0 {
			z[i] = new(big.Rat).Add(a[i], big.NewRat(1, 1))
		}
	}
	return z
}

func (a jet) plus(b jet, sign int64) jet {
	var z jet
	for i := range z {
		z[i] = new(big.Rat).Mul(b[i], big.NewRat(sign, 1))
		z[i].Add(z[i], a[i])
	}
	return z
}

func (a jet) times(b jet) jet {
	z := jetOf(new(big.Rat))
	for i := range a {
		for j := range b {
			if i&j == 0 && a[i].Sign() != 0 && b[j].Sign() != 0 {
				z[i|j].Add(z[i|j], new(big.Rat).Mul(a[i], b[j]))
			}
		}
	}
	return z
}

// inverse is 1 over a jet that doesn't begin with 0.
func (a jet) inverse() jet {
	z := jetOf(new(big.Rat).Inv(a[0]))
	// Each step doubles the degree that is right.
	for range 2 {
		z = z.times(jetOf(big.NewRat(2, 1)).plus(a.times(z), -1))
	}
	return z
}

// pow is a power by squaring.
func (a jet) pow(n int) jet {
	if n < 0 {
		a, n = a.inverse(), -n
	}
	z := jetOf(big.NewRat(1, 1))
	for ; n > 0; n /= 2 {
		if n%2 == 1 {
			z = z.times(a)
		}
		a = a.times(a)
	}
	return z
}

// isPole tells whether a node has no value over these operands.
func isPole(op api.Op, l []jet) bool {
	switch op.Kind {
	case api.OpDiv:
		return l[op.B][0].Sign() == 0
	case api.OpPow:
		return op.N < 0 && l[op.A][0].Sign() == 0
	}
	return false
}

// jetAt is a node's jet over those of its operands, by its operation alone; it is no pole.
func jetAt(op api.Op, l []jet, at []api.Rat) jet {
	switch op.Kind {
	case api.OpInput:
		return jetOf(bigOf(at[op.A]))
	case api.OpConst:
		return jetOf(bigOf(op.C))
	case api.OpAdd:
		return l[op.A].plus(l[op.B], 1)
	case api.OpSub:
		return l[op.A].plus(l[op.B], -1)
	case api.OpMul:
		return l[op.A].times(l[op.B])
	case api.OpDiv:
		return l[op.A].times(l[op.B].inverse())
	case api.OpNeg:
		return jetOf(new(big.Rat)).plus(l[op.A], -1)
	}
	return l[op.A].pow(op.N)
}
