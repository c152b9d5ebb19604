package series

import (
	"math/bits"

	"slope/api"
	"slope/natural"
)

// poly is a polynomial of whole numbers, the coefficient of t^0 first. All that
// go together are of one length; what is beyond it is left aside.
type poly []whole

// flat is a polynomial that is a number alone.
func flat(c whole, size int) poly {
	z := make(poly, size)
	z[0] = c
	return z
}

func (p poly) negative() poly {
	z := make(poly, len(p))
	for k := range p {
		z[k] = p[k].negative()
	}
	return z
}

func (p poly) plus(q poly) poly {
	z := make(poly, len(p))
	for k := range p {
		z[k] = p[k].plus(q[k])
	}
	return z
}

func (p poly) times(q poly) poly {
	z := make(poly, len(p))
	for k := range p {
		z[k] = crossed(p[:k+1], q[:k+1])
	}
	return z
}

// power is p^n, by squaring. The bits of n are gone through from the top: no
// power on the way is above the last one, so none is larger.
func (p poly) power(n int) poly {
	z := flat(one(), len(p))
	for i := bits.Len(uint(n)) - 1; i >= 0; i-- {
		z = z.times(z)
		if n>>i&1 == 1 {
			z = z.times(p)
		}
	}
	return z
}

// primitive is the greatest natural that divides all coefficients, and the polynomial without it; p is not 0.
func (p poly) primitive() (api.Nat, poly) {
	var common api.Nat
	for _, c := range p {
		common = sure(natural.Gcd(common, c.size))
	}
	z := make(poly, len(p))
	for k := range p {
		z[k] = p[k].by(common)
	}
	return common, z
}
