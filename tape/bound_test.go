package tape_test

import (
	"math/big"
	"testing"

	"slope/api"
	"slope/tape"
)

// maxDegree is how far series go here.
const maxDegree = 4

// jet is the coefficients of a polynomial: of a series in one letter, by degree, or in two letters that are 0 when squared, by the set of letters as bits.
type jet []*big.Rat

// ring multiplies: it tells which coefficient two of them go to, below 0 if to none.
type ring struct {
	size int
	goes func(i, j int) int
}

// series is in one letter.
func series() ring {
	return ring{maxDegree + 1, func(i, j int) int {
		if i+j > maxDegree {
			return -1
		}
		return i + j
	}}
}

// letters is in two letters.
func letters() ring {
	return ring{4, func(i, j int) int {
		if i&j != 0 {
			return -1
		}
		return i | j
	}}
}

func (r ring) zero() jet {
	z := make(jet, r.size)
	for i := range z {
		z[i] = new(big.Rat)
	}
	return z
}

func (r ring) of(c *big.Rat) jet {
	z := r.zero()
	z[0].Set(c)
	return z
}

func (r ring) add(a, b jet, sign int64) jet {
	z := r.zero()
	for i := range z {
		z[i].Add(a[i], new(big.Rat).Mul(b[i], big.NewRat(sign, 1)))
	}
	return z
}

func (r ring) mul(a, b jet) jet {
	z := r.zero()
	for i := range a {
		for j := range b {
			if k := r.goes(i, j); k >= 0 {
				z[k].Add(z[k], new(big.Rat).Mul(a[i], b[j]))
			}
		}
	}
	return z
}

// inverse is 1 over a jet; false: it begins with 0.
func (r ring) inverse(a jet) (jet, bool) {
	if a[0].Sign() == 0 {
		return nil, false
	}
	z := r.of(new(big.Rat).Inv(a[0]))
	two := r.of(big.NewRat(2, 1))
	// Each step doubles the degree that is right.
	for range 4 {
		z = r.mul(z, r.add(two, r.mul(a, z), -1))
	}
	return z, true
}

func (r ring) pow(a jet, n int) (jet, bool) {
	if n < 0 {
		inverse, ok := r.inverse(a)
		if !ok {
			return nil, false
		}
		a, n = inverse, -n
	}
	z := r.of(big.NewRat(1, 1))
	for range n {
		z = r.mul(z, a)
	}
	return z, true
}

// run works a tape out, node by node; what hangs on a division by 0 is nil. Behind each node move adds what the node is moved by.
func (r ring) run(t api.Tape, inputs []jet, move func(n int) jet) []jet {
	var l []jet
	for n, op := range t.Ops {
		z := r.node(op, l, inputs)
		if z != nil && move != nil {
			z = r.add(z, move(n), 1)
		}
		l = append(l, z)
	}
	return l
}

// node is one node's jet.
func (r ring) node(op api.Op, l, inputs []jet) jet {
	k := operandsOf(op)
	for _, n := range k {
		if l[n] == nil {
			return nil
		}
	}
	switch op.Kind {
	case api.OpInput:
		return inputs[op.A]
	case api.OpConst:
		return r.of(bigOf(op.C))
	case api.OpAdd:
		return r.add(l[op.A], l[op.B], 1)
	case api.OpSub:
		return r.add(l[op.A], l[op.B], -1)
	case api.OpMul:
		return r.mul(l[op.A], l[op.B])
	case api.OpNeg:
		return r.add(r.zero(), l[op.A], -1)
	case api.OpDiv:
		inverse, ok := r.inverse(l[op.B])
		if !ok {
			return nil
		}
		return r.mul(l[op.A], inverse)
	}
	z, _ := r.pow(l[op.A], op.N)
	return z
}

// along are inputs on a line: letter is the coefficient that the direction goes to.
func (r ring) along(at, along []api.Rat, letter int) []jet {
	var l []jet
	for i := range at {
		z := r.of(bigOf(at[i]))
		if len(along) > 0 {
			z[letter].Set(bigOf(along[i]))
		}
		l = append(l, z)
	}
	return l
}

// bound fails if a coefficient of degree k is above what the weight says, and counts how many are looked at.
type bound struct {
	t    *testing.T
	x    api.Tape
	w    []api.Weight
	seen int
}

func (b *bound) want(what string, n, k int, c *big.Rat) {
	b.t.Helper()
	w := b.w[n]
	if w.Num >= api.MaxWeight || w.Den >= api.MaxWeight {
		return
	}
	b.seen++
	if num, den := c.Num().BitLen(), c.Denom().BitLen(); num > w.Num+k*w.Den+1 || den > (k+1)*w.Den {
		b.t.Errorf("P5.10: %s of node %d, degree %d: %d over %d bits, weight %v: %s", what, n, k, num, den, w, show(b.x))
	}
}

// P5.10: values, series, first and second derivatives by nodes and along the direction are bounded by the weights.
func TestWeightsBound(t *testing.T) {
	t.Parallel()
	d := dice(8)
	seen := 0
	for i := range 250 {
		x := d.tape(8)
		at, along := d.point(x.Inputs), d.point(x.Inputs)
		if i%4 == 0 {
			along = nil
		}
		w, e := tape.Weigh(x, at, along)
		if e != api.OK {
			t.Fatalf("Weigh: %d", e)
		}
		b := &bound{t: t, x: x, w: w}
		r := series()
		for n, z := range r.run(x, r.along(at, along, 1), nil) {
			for k := range z {
				b.want("the series", n, k, z[k])
			}
		}
		b.byNodes(at, along)
		seen += b.seen
	}
	if seen < 20000 {
		t.Errorf("%d numbers were looked at", seen)
	}
}

// byNodes looks at derivatives by each node, by each pair of nodes, and by each node and along the direction.
func (b *bound) byNodes(at, along []api.Rat) {
	r := letters()
	none := r.zero()
	by := func(bits int) jet {
		z := r.zero()
		for i := 1; i <= 2; i++ {
			if bits&i != 0 {
				z[i].SetInt64(1)
			}
		}
		return z
	}
	for i := range b.x.Ops {
		for n, z := range r.run(b.x, r.along(at, along, 2), func(n int) jet {
			if n == i {
				return by(1)
			}
			return none
		}) {
			if z != nil {
				b.want("the derivative by a node", n, 1, z[1])
				b.want("the derivative by a node and along", n, 2, z[3])
			}
		}
		for j := range i + 1 {
			for n, z := range r.run(b.x, r.along(at, nil, 2), func(n int) jet {
				bits := 0
				if n == i {
					bits |= 1
				}
				if n == j {
					bits |= 2
				}
				return by(bits)
			}) {
				if z != nil {
					b.want("the derivative by two nodes", n, 2, z[3])
				}
			}
		}
	}
}
