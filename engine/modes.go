package engine

import (
	"slope/api"
	"slope/colour"
	"slope/reach"
	"slope/regain"
	"slope/sweep"
	"slope/tape"
)

// mode is how a Jacobian is made: which colours its pattern gets, how the tape is
// swept with a colour's seed, and how what was swept is taken apart.
type mode struct {
	ordered bool // whether the colours hang on an order
	colours func(p api.Pattern, plan api.Plan) ([]int, int, api.Errno)
	sweep   func(t api.Tape, at, seed []api.Rat) []api.Rat
	regain  func(p painting, swept [][]api.Rat) api.Matrix
}

// modeOf is a plan's mode, or the fault that there is none, or no such order.
func modeOf(plan api.Plan) (mode, api.Errno) {
	table := [...]mode{
		api.ModeColumns: {true, columnColours, forward, byColumns},
		api.ModeRows:    {true, rowColours, reverse, byRows},
		api.ModeDense:   {false, inputColours, forward, byColumns},
	}
	if plan.Mode < api.ModeColumns || plan.Mode > api.ModeDense {
		return mode{}, api.ErrMode
	}
	m := table[plan.Mode]
	if !m.ordered {
		return m, api.OK
	}
	return m, orderKindFault(plan)
}

// paint colours the pattern of a tape's Jacobian.
func (m mode) paint(t api.Tape, plan api.Plan) (painting, api.Errno) {
	p, _, _ := reach.Jacobian(t)
	l, n, e := m.colours(p, plan)
	if e != api.OK {
		return painting{}, e
	}
	return painting{pattern: p, colours: l, number: n}, api.OK
}

func columnColours(p api.Pattern, plan api.Plan) ([]int, int, api.Errno) {
	return greedy(api.ColourColumns, p, sure(colour.Columns(p)), plan)
}

func rowColours(p api.Pattern, plan api.Plan) ([]int, int, api.Errno) {
	return greedy(api.ColourRows, p, sure(colour.Rows(p)), plan)
}

func inputColours(p api.Pattern, _ api.Plan) ([]int, int, api.Errno) {
	return apart(p.Width), p.Width, api.OK
}

// forward are the outputs' derivatives along a direction.
func forward(t api.Tape, at, along []api.Rat) []api.Rat {
	l, _, _ := sweep.Forward(t, at, [][]api.Rat{along})
	return l[0]
}

// reverse are the derivatives of a weighted sum by the inputs.
func reverse(t api.Tape, at, w []api.Rat) []api.Rat {
	l, _, _ := sweep.Reverse(t, at, [][]api.Rat{w})
	return l[0]
}

func byColumns(p painting, swept [][]api.Rat) api.Matrix {
	return sure(regain.Columns(p.pattern, p.colours, turned(swept, p.pattern.Rows)))
}

func byRows(p painting, swept [][]api.Rat) api.Matrix {
	return sure(regain.Rows(p.pattern, p.colours, swept))
}

// jacobian is all of a tape's Jacobian that no point changes.
type jacobian struct {
	tape     api.Tape
	mode     mode
	painting painting
	fault    api.Errno // of the plan: told behind those of tape and point
}

// jacobianOf is that of a tape and a plan.
func jacobianOf(t api.Tape, plan api.Plan) jacobian {
	j := jacobian{tape: t}
	if _, e := tape.Check(t); e != api.OK {
		// Each answer tells this first: there is nothing to paint.
		return j
	}
	j.mode, j.fault = modeOf(plan)
	if j.fault == api.OK {
		j.fault = workersFault(plan)
	}
	if j.fault == api.OK {
		j.painting, j.fault = j.mode.paint(t, plan)
	}
	return j
}

// answer is what it comes to at a point.
func (j jacobian) answer(at []api.Rat, workers int) api.Answer {
	if place, e := pointFault(j.tape, at); e != api.OK {
		return api.Answer{Place: place, Err: e}
	}
	if j.fault != api.OK {
		return api.Answer{Err: j.fault}
	}
	if place, e := outcome(j.tape, at, ones(len(j.tape.Outs))); e != api.OK {
		return api.Answer{Place: place, Err: e}
	}
	swept, sweeps := j.painting.swept(workers, func(seed []api.Rat) []api.Rat {
		return j.mode.sweep(j.tape, at, seed)
	})
	return api.Answer{M: j.mode.regain(j.painting, swept), Sweeps: sweeps}
}
