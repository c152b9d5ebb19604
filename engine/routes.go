package engine

import (
	"slope/api"
	"slope/push"
	"slope/reach"
	"slope/regain"
	"slope/sparse"
	"slope/sweep"
)

// sum is the sum of a tape's outputs with weights, at a point.
type sum struct {
	tape           api.Tape
	point, weights []api.Rat
}

// route is how a Hessian is made.
type route interface {
	// ordered tells whether the colours hang on an order.
	ordered() bool
	// paint colours the Hessian's pattern.
	paint(t api.Tape, plan api.Plan) (painting, api.Errno)
	// matrix is the second derivatives, and how many sweeps they took.
	matrix(s sum, p painting, workers int) (api.Matrix, int)
}

// routeOf is a plan's route, or the fault that there is none, or no such order.
func routeOf(plan api.Plan) (route, api.Errno) {
	var r route
	switch plan.Route {
	case api.RouteStar:
		r = coloured{kind: api.ColourStar}
	case api.RouteAcyclic:
		r = coloured{kind: api.ColourAcyclic}
	case api.RoutePush:
		r = pushed{}
	case api.RouteDense:
		r = dense{}
	default:
		return nil, api.ErrRoute
	}
	if !r.ordered() {
		return r, api.OK
	}
	return r, orderKindFault(plan)
}

// coloured is the route of the kinds that colour the Hessian's graph.
type coloured struct{ kind api.ColourKind }

func (coloured) ordered() bool { return true }

func (r coloured) paint(t api.Tape, plan api.Plan) (painting, api.Errno) {
	p, _, _ := reach.Hessian(t)
	g := sure(sparse.Graph(p))
	l, n, e := greedy(r.kind, g, g, plan)
	if e != api.OK {
		return painting{}, e
	}
	return painting{pattern: p, colours: l, number: n}, api.OK
}

func (r coloured) matrix(s sum, p painting, workers int) (api.Matrix, int) {
	swept, sweeps := p.swept(workers, s.second)
	sums := turned(swept, p.pattern.Rows)
	if r.kind == api.ColourAcyclic {
		return sure(regain.Acyclic(p.pattern, p.colours, sums)), sweeps
	}
	return sure(regain.Star(p.pattern, p.colours, sums)), sweeps
}

// dense is the route of one sweep an input.
type dense struct{}

func (dense) ordered() bool { return false }

func (dense) paint(t api.Tape, _ api.Plan) (painting, api.Errno) {
	p, _, _ := reach.Hessian(t)
	return painting{pattern: p, colours: apart(t.Inputs), number: t.Inputs}, api.OK
}

func (dense) matrix(s sum, p painting, workers int) (api.Matrix, int) {
	swept, sweeps := p.swept(workers, s.second)
	// Colours that are all unlike leave each entry alone in its own row.
	return sure(regain.Columns(p.pattern, p.colours, turned(swept, p.pattern.Rows))), sweeps
}

// pushed is the route of edge pushing.
type pushed struct{}

func (pushed) ordered() bool { return false }

func (pushed) paint(api.Tape, api.Plan) (painting, api.Errno) { return painting{}, api.OK }

func (pushed) matrix(s sum, _ painting, workers int) (api.Matrix, int) {
	var m api.Matrix
	sweeps := deal(1, workers, func(int) { m, _, _ = push.Hessian(s.tape, s.point, s.weights) })
	return m, sweeps
}

// second are the derivatives, along a direction, of those by the inputs.
func (s sum) second(along []api.Rat) []api.Rat {
	l, _, _ := sweep.Second(s.tape, s.point, s.weights, [][]api.Rat{along})
	return l[0]
}
