package sweep_test

import (
	"math/big"

	"slope/api"
)

// maxDegree is how far series go here.
const maxDegree = 2

// jet is the coefficients of a polynomial: of a series in one letter, by degree, or in two letters that are 0 when squared, by the set of letters as bits.
type jet []*big.Rat

// ring multiplies: it tells which coefficient two of them go to, below 0 if to none.
type ring struct {
	size int
	goes func(i, j int) int
}

// series is in one letter.
func series() ring {
	return ring{maxDegree + 1, func(i, j int) int {
		if i+j > maxDegree {
			return -1
		}
		return i + j
	}}
}

// letters is in two letters.
func letters() ring {
	return ring{4, func(i, j int) int {
		if i&j != 0 {
			return -1
		}
		return i | j
	}}
}

func (r ring) zero() jet {
	z := make(jet, r.size)
	for i := range z {
		z[i] = new(big.Rat)
	}
	return z
}

func (r ring) of(c *big.Rat) jet {
	z := r.zero()
	z[0].Set(c)
	return z
}

func (r ring) add(a, b jet, sign int64) jet {
	z := r.zero()
	for i := range z {
		z[i].Add(a[i], new(big.Rat).Mul(b[i], big.NewRat(sign, 1)))
	}
	return z
}

func (r ring) mul(a, b jet) jet {
	z := r.zero()
	for i := range a {
		for j := range b {
			if k := r.goes(i, j); k >= 0 && a[i].Sign() != 0 && b[j].Sign() != 0 {
				z[k].Add(z[k], new(big.Rat).Mul(a[i], b[j]))
			}
		}
	}
	return z
}

// inverse is 1 over a jet, nil if it begins with 0.
func (r ring) inverse(a jet) jet {
	if a[0].Sign() == 0 {
		return nil
	}
	z := r.of(new(big.Rat).Inv(a[0]))
	two := r.of(big.NewRat(2, 1))
	// Each step doubles the degree that is right.
	for range 2 {
		z = r.mul(z, r.add(two, r.mul(a, z), -1))
	}
	return z
}

// pow is a power by squaring, nil below 0 of what begins with 0.
func (r ring) pow(a jet, n int) jet {
	if n < 0 {
		a, n = r.inverse(a), -n
		if a == nil {
			return nil
		}
	}
	z := r.of(big.NewRat(1, 1))
	for ; n > 0; n /= 2 {
		if n%2 == 1 {
			z = r.mul(z, a)
		}
		a = r.mul(a, a)
	}
	return z
}

// run works a tape out, node by node; what is a pole, or hangs on one, is nil. One node is moved by letter 1, if there is one of that number.
func (r ring) run(t api.Tape, inputs []jet, moved int) []jet {
	var l []jet
	for n, op := range t.Ops {
		z := r.node(op, l, inputs)
		if z != nil && n == moved {
			by := r.zero()
			by[1].SetInt64(1)
			z = r.add(z, by, 1)
		}
		l = append(l, z)
	}
	return l
}

// node is one node's jet.
func (r ring) node(op api.Op, l, inputs []jet) jet {
	for _, n := range operandsOf(op) {
		if l[n] == nil {
			return nil
		}
	}
	switch op.Kind {
	case api.OpInput:
		return inputs[op.A]
	case api.OpConst:
		return r.of(bigOf(op.C))
	case api.OpAdd:
		return r.add(l[op.A], l[op.B], 1)
	case api.OpSub:
		return r.add(l[op.A], l[op.B], -1)
	case api.OpMul:
		return r.mul(l[op.A], l[op.B])
	case api.OpNeg:
		return r.add(r.zero(), l[op.A], -1)
	case api.OpDiv:
		if z := r.inverse(l[op.B]); z != nil {
			return r.mul(l[op.A], z)
		}
		return nil
	}
	return r.pow(l[op.A], op.N)
}

// line are inputs on a line: letter is the coefficient that the direction goes to.
func (r ring) line(at, along []api.Rat, letter int) []jet {
	var l []jet
	for i := range at {
		z := r.of(bigOf(at[i]))
		if len(along) > 0 {
			z[letter].Set(bigOf(along[i]))
		}
		l = append(l, z)
	}
	return l
}
