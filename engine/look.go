package engine

import (
	"slices"

	"slope/api"
	"slope/rational"
	"slope/tape"
)

// pointFault is the first fault of a tape and a point, and its place.
func pointFault(t api.Tape, at []api.Rat) (int, api.Errno) {
	if place, e := tape.Check(t); e != api.OK {
		return place, e
	}
	return listFault(at, t.Inputs, api.ErrPoint)
}

// weightedFault is the first fault of a tape, a point and weights, and its place.
func weightedFault(t api.Tape, at, w []api.Rat) (int, api.Errno) {
	if place, e := pointFault(t, at); e != api.OK {
		return place, e
	}
	return listFault(w, len(t.Outs), api.ErrWeights)
}

// listFault is the first fault of a list that is to have so many numbers, and its place; unlike is the fault of another length.
func listFault(l []api.Rat, length int, unlike api.Errno) (int, api.Errno) {
	if len(l) != length {
		return 0, unlike
	}
	if i := slices.IndexFunc(l, mayNot); i >= 0 {
		return i, api.ErrRat
	}
	return 0, api.OK
}

// mayNot tells whether a number may not be.
func mayNot(r api.Rat) bool { return !rational.May(r) }

// orderKindFault is that of a plan whose order is used.
func orderKindFault(plan api.Plan) api.Errno {
	if plan.Order < api.OrderNatural || plan.Order > api.OrderScript {
		return api.ErrOrderKind
	}
	return api.OK
}

// workersFault is that of a plan whose workers are used.
func workersFault(plan api.Plan) api.Errno {
	if plan.Workers < 1 || plan.Workers > api.MaxWorkers {
		return api.ErrWorkers
	}
	return api.OK
}
