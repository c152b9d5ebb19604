package tape

import (
	"slope/api"
	"slope/natural"
)

// line is a point and a direction; along is empty where there is none.
type line struct {
	at, along []api.Rat
}

// rule tells what a node of its kind weighs, over what the nodes ahead of it weigh.
type rule interface {
	weight(known []api.Weight) api.Weight
}

// A rule for each kind, with what the weight hangs on; sums and differences weigh alike.
type (
	inputRule    struct{ at, along api.Weight }
	constRule    struct{ value api.Weight }
	negRule      struct{ a int }
	sumRule      struct{ a, b int }
	productRule  struct{ a, b int }
	quotientRule struct{ a, b int }
	powerRule    struct{ a, n int }
)

// ruleOf is the rule of a node.
func ruleOf(op api.Op, l line) rule {
	switch op.Kind {
	case api.OpInput:
		return inputRule{bitsOf(l.at[op.A]), l.speed(op.A)}
	case api.OpConst:
		return constRule{bitsOf(op.C)}
	case api.OpNeg:
		return negRule{op.A}
	case api.OpMul:
		return productRule{op.A, op.B}
	case api.OpDiv:
		return quotientRule{op.A, op.B}
	case api.OpPow:
		return powerRule{op.A, op.N}
	}
	return sumRule{op.A, op.B}
}

// speed is how many bits the direction has at an input; 0 over 1 has none and one.
func (l line) speed(input int) api.Weight {
	if len(l.along) == 0 {
		return api.Weight{Num: 0, Den: 1}
	}
	return bitsOf(l.along[input])
}

// bitsOf is how many bits a number has above and below.
func bitsOf(r api.Rat) api.Weight {
	return api.Weight{Num: natural.Bits(r.Num), Den: natural.Bits(r.Den)}
}

// An input is x + t * v + s, over the product of the two denominators: a sum of three.
func (r inputRule) weight([]api.Weight) api.Weight {
	x, v := r.at, r.along
	den := x.Den + v.Den
	return api.Weight{Num: capped(max(x.Num+v.Den, v.Num+x.Den, den) + 2), Den: capped(den)}
}

func (r constRule) weight([]api.Weight) api.Weight { return movable(r.value.Num, r.value.Den) }

func (r negRule) weight(known []api.Weight) api.Weight {
	return movable(known[r.a].Num, known[r.a].Den)
}

func (r sumRule) weight(known []api.Weight) api.Weight {
	a, b := known[r.a], known[r.b]
	return movable(max(a.Num+b.Den, b.Num+a.Den)+1, a.Den+b.Den)
}

func (r productRule) weight(known []api.Weight) api.Weight {
	a, b := known[r.a], known[r.b]
	return movable(a.Num+b.Num, a.Den+b.Den)
}

func (r quotientRule) weight(known []api.Weight) api.Weight {
	a, b := known[r.a], known[r.b]
	return movable(a.Num+b.Den, a.Den+b.Num)
}

func (r powerRule) weight(known []api.Weight) api.Weight {
	a := known[r.a]
	switch {
	case r.n > 0:
		return movable(r.n*a.Num, r.n*a.Den)
	case r.n < 0:
		return movable(-r.n*a.Den, -r.n*a.Num)
	}
	return movable(1, 1)
}

// movable is the weight of a node that is no input: its value may be moved too, which adds the denominator to the numerator.
func movable(num, den int) api.Weight {
	num, den = capped(num), capped(den)
	return api.Weight{Num: capped(max(num, den) + 1), Den: den}
}

// capped keeps a weight where no sum or product of two can wrap.
func capped(n int) int { return min(n, api.MaxWeight) }

// weigh lays the weights of nodes behind those of the nodes ahead of them.
func weigh(known []api.Weight, ops []api.Op, l line) []api.Weight {
	for i := range ops {
		known = append(known, ruleOf(ops[i], l).weight(known))
	}
	return known
}

// tooMuch tells whether something is large.
func tooMuch(w api.Weight) bool { return w.Num > api.MaxBits || w.Den > api.MaxBits }

// firstLarge is the least live node that is large; 0 and false, if none is.
func firstLarge(t api.Tape, known []api.Weight) (int, bool) {
	for i, alive := range live(t) {
		if alive && tooMuch(known[i]) {
			return i, true
		}
	}
	return 0, false
}

// sumWeight is the weight of the outputs' sum, behind those of the tape's own nodes.
func sumWeight(t api.Tape, known []api.Weight, w []api.Rat) api.Weight {
	all := weigh(known, sumOps(t, w), line{})
	return all[len(all)-1]
}
