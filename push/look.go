package push

import (
	"slices"

	"slope/api"
	"slope/rational"
	"slope/sweep"
	"slope/tape"
)

// ready looks at what a call is given, in the chapter's order of errors, and stands at the tape's end.
func ready(t api.Tape, at []api.Rat, w []api.Rat, upto int) (*back, int, api.Errno) {
	if place, e := fault(t, at, w, upto); e != api.OK {
		return nil, place, e
	}
	if n, found, _ := tape.LargeSum(t, at, nil, w); found {
		return nil, n, api.ErrLarge
	}
	values, place, e := sweep.Nodes(t, at)
	if e != api.OK {
		return nil, place, e
	}
	return backOf(t, values, w), 0, api.OK
}

// fault is the first fault of the arguments by themselves, and its place.
func fault(t api.Tape, at []api.Rat, w []api.Rat, upto int) (int, api.Errno) {
	if place, e := tape.Check(t); e != api.OK {
		return place, e
	}
	if place, e := listFault(at, t.Inputs, api.ErrPoint); e != api.OK {
		return place, e
	}
	if place, e := listFault(w, len(t.Outs), api.ErrWeights); e != api.OK {
		return place, e
	}
	if upto < 0 || upto > len(t.Ops) {
		return 0, api.ErrArg
	}
	return 0, api.OK
}

// listFault is the first fault of a list that is to have so many numbers, and its place; unlike is the fault of another length.
func listFault(l []api.Rat, length int, unlike api.Errno) (int, api.Errno) {
	if len(l) != length {
		return 0, unlike
	}
	if i := slices.IndexFunc(l, mayNot); i >= 0 {
		return i, api.ErrRat
	}
	return 0, api.OK
}

// mayNot tells whether a number may not be.
func mayNot(r api.Rat) bool { return !rational.May(r) }
