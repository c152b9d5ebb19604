package solve

import (
	"slices"

	"slope/api"
	"slope/natural"
	"slope/rational"
	"slope/sparse"
	"slope/tape"
)

// sumBits is how many bits a sum of a row's numbers, 65 at the most, has more than the greatest.
const sumBits = 7

// ready is the system of a matrix that nothing stands beside.
func ready(a api.Matrix) (*system, api.Errno) {
	if !may(a) {
		return nil, api.ErrMatrix
	}
	return notLarge(a, zeros(a.P.Rows))
}

// readySquare is the same of a matrix that must be square.
func readySquare(a api.Matrix) (*system, api.Errno) {
	switch {
	case !may(a):
		return nil, api.ErrMatrix
	case a.P.Rows != a.P.Width:
		return nil, api.ErrShape
	}
	return notLarge(a, zeros(a.P.Rows))
}

// readyWith is the system of a matrix with a number beside each row.
func readyWith(a api.Matrix, b []api.Rat) (*system, api.Errno) {
	switch {
	case !may(a):
		return nil, api.ErrMatrix
	case slices.ContainsFunc(b, mayNot):
		return nil, api.ErrRat
	case len(b) != a.P.Rows:
		return nil, api.ErrShape
	}
	return notLarge(a, b)
}

// may tells whether a matrix may be, and is one of a system.
func may(a api.Matrix) bool {
	return a.P.Rows <= api.MaxSystem && a.P.Width <= api.MaxSystem && sparse.MayMatrix(a)
}

// mayNot tells whether a number may not be.
func mayNot(r api.Rat) bool { return !rational.May(r) }

// notLarge is a system that is not large.
func notLarge(a api.Matrix, b []api.Rat) (*system, api.Errno) {
	if weight(a, b) > api.MaxSolve {
		return nil, api.ErrLarge
	}
	return systemOf(a, b), api.OK
}

// weight is that of a system: of each row the bits of the Dens, the most bits of a Num, and sumBits.
func weight(a api.Matrix, b []api.Rat) int {
	total := 0
	for r := range b {
		most := natural.Bits(b[r].Num)
		total += natural.Bits(b[r].Den) + sumBits
		for i := a.P.Start[r]; i < a.P.Start[r+1]; i++ {
			most = max(most, natural.Bits(a.Vals[i].Num))
			total += natural.Bits(a.Vals[i].Den)
		}
		total += most
	}
	return total
}

// walkFault is the first fault of what Newton is given, and its place.
func walkFault(t api.Tape, at []api.Rat, steps int) (int, api.Errno) {
	if place, e := tape.Check(t); e != api.OK {
		return place, e
	}
	if len(at) != t.Inputs {
		return 0, api.ErrPoint
	}
	if i := slices.IndexFunc(at, mayNot); i >= 0 {
		return i, api.ErrRat
	}
	switch {
	case steps < 0 || steps > api.MaxSteps:
		return 0, api.ErrArg
	case len(t.Outs) != t.Inputs:
		return 0, api.ErrShape
	}
	return 0, api.OK
}
