package solve

import (
	"slices"

	"slope/api"
	"slope/rational"
	"slope/sparse"
	"slope/sweep"
	"slope/tape"
)

// going is the end of a walk that has not ended.
const going = 0

// walkFrom makes at most so many of Newton's steps from x on.
func walkFrom(t api.Tape, x []api.Rat, steps int) api.Walk {
	w := api.Walk{Points: [][]api.Rat{x}}
walk:
	for {
		f, node, end := valuesAt(t, x)
		if end != going {
			w.End, w.Node = end, node
			break walk
		}
		switch {
		case !slices.ContainsFunc(f, isNotZero):
			w.End = api.WalkFound
			break walk
		case len(w.Points) > steps:
			w.End = api.WalkLeft
			break walk
		}
		y, node, end := stepAt(t, x, f)
		if end != going {
			w.End, w.Node = end, node
			break walk
		}
		x = differences(x, y)
		w.Points = append(w.Points, x)
	}
	return w
}

// valuesAt are the outputs' values; or how the walk ends there, and its node.
func valuesAt(t api.Tape, x []api.Rat) ([]api.Rat, int, int) {
	if node, large, _ := tape.LargeSum(t, x, nil, ones(len(t.Outs))); large {
		return nil, node, api.WalkLarge
	}
	f, node, e := sweep.Values(t, x)
	if e != api.OK {
		return nil, node, api.WalkPole
	}
	return f, 0, going
}

// stepAt is the solution of the Jacobian's system with f; or how the walk ends there, and its node.
func stepAt(t api.Tape, x, f []api.Rat) ([]api.Rat, int, int) {
	s, e := notLarge(jacobian(t, x), f)
	if e != api.OK {
		return nil, len(t.Ops) + 1, api.WalkLarge
	}
	s.eliminate(byProduct{})
	if s.rank() < s.width {
		return nil, 0, api.WalkSingular
	}
	return s.solution(s.width), 0, going
}

// jacobian is the matrix of the derivatives that are not 0.
func jacobian(t api.Tape, x []api.Rat) api.Matrix {
	units := make([][]api.Rat, len(t.Outs))
	for i := range units {
		units[i] = zeros(len(t.Outs))
		units[i][i] = rational.FromInt(1)
	}
	rows, _, _ := sweep.Reverse(t, x, units)
	return sure(sparse.Sparse(rows, t.Inputs))
}

func isNotZero(r api.Rat) bool { return len(r.Num) > 0 }

// ones are so many ones.
func ones(n int) []api.Rat {
	l := make([]api.Rat, n)
	for i := range l {
		l[i] = rational.FromInt(1)
	}
	return l
}

// differences are the numbers of x less those of y.
func differences(x, y []api.Rat) []api.Rat {
	z := make([]api.Rat, len(x))
	for i := range x {
		z[i] = sure(rational.Sub(x[i], y[i]))
	}
	return z
}
