package series

import (
	"slope/api"
	"slope/tape"
)

// line is where the inputs go, x + t * v, and the degree up to which it is followed.
type line struct {
	at, along []api.Rat
	degree    int
}

// run is a tape that is worked out along a line.
type run struct {
	line
	t    api.Tape
	live []bool
}

// ready looks at what a call is given, in the chapter's order of errors up to ErrLarge.
func ready(t api.Tape, l line) (run, int, api.Errno) {
	live, e := tape.Live(t)
	if e != api.OK {
		place, _ := tape.Check(t)
		return run{}, place, e
	}
	if place, e := l.fault(t.Inputs); e != api.OK {
		return run{}, place, e
	}
	r := run{l, t, live}
	if place, found := r.large(); found {
		return run{}, place, api.ErrLarge
	}
	return r, 0, api.OK
}

// fault is the first fault of a line for so many inputs, and its place.
func (l line) fault(inputs int) (int, api.Errno) {
	if len(l.at) != inputs || len(l.along) != inputs {
		return 0, api.ErrPoint
	}
	if i, found := wrong(l.at); found {
		return i, api.ErrRat
	}
	if i, found := wrong(l.along); found {
		return i, api.ErrRat
	}
	if l.degree < 0 || l.degree > api.MaxOrder {
		return 0, api.ErrDegree
	}
	return 0, api.OK
}

// large is the least live node whose coefficients could get too large, and whether there is one.
func (r run) large() (int, bool) {
	weights, _ := tape.Weigh(r.t, r.at, r.along)
	for i, w := range weights {
		if r.live[i] && (r.degree+1)*(w.Num+w.Den) > api.MaxSeries {
			return i, true
		}
	}
	return 0, false
}

// work works out the live nodes, up to the first pole.
func (r run) work() ([]fraction, int, api.Errno) {
	known := make([]fraction, len(r.t.Ops))
	for i, op := range r.t.Ops {
		if !r.live[i] {
			continue
		}
		n, does := node{op, r.line, known}, ruleOf(op.Kind)
		if does.pole(n) {
			return nil, i, api.ErrPole
		}
		known[i] = does.work(n)
	}
	return known, 0, api.OK
}

// outputs are the outputs' series; that of a node which is several outputs is expanded once, and copied.
func (r run) outputs(nodes []fraction) [][]api.Rat {
	done := map[int][]api.Rat{}
	var z [][]api.Rat
	for _, n := range r.t.Outs {
		if done[n] == nil {
			done[n] = nodes[n].series()
		}
		z = append(z, copyRats(done[n]))
	}
	return z
}
