package sweep

import (
	"slope/api"
	"slope/rational"
	"slope/tape"
)

// seeds are the lists that a call is given beside the point. A forward sweep has
// no weights, a reverse one no directions; of second order there is one list of
// weights.
type seeds struct {
	weights, along [][]api.Rat
}

// run is the live nodes of a tape, worked out at a point. The others are trimmed
// away ahead of all else: they may be as large as they like, and each look at
// them would cost.
type run struct {
	live   api.Tape
	at     []api.Rat
	number []int // of each live node, in the tape that was handed in
	count  int   // of that tape's nodes
	nodes  []node
	values []api.Rat
}

// ready looks at what a call is given, in the chapter's order of errors, and works out the values.
func ready(t api.Tape, at []api.Rat, s seeds) (run, int, api.Errno) {
	r, place, e := open(t, at)
	if e != api.OK {
		return run{}, place, e
	}
	if place, e := s.fault(t); e != api.OK {
		return run{}, place, e
	}
	if place, found := r.large(s); found {
		return run{}, place, api.ErrLarge
	}
	if place, found := r.work(); found {
		return run{}, place, api.ErrPole
	}
	return r, 0, api.OK
}

// open looks at the tape and at the point.
func open(t api.Tape, at []api.Rat) (run, int, api.Errno) {
	live, to, e := tape.Trim(t)
	if e != api.OK {
		place, _ := tape.Check(t)
		return run{}, place, e
	}
	if len(at) != t.Inputs {
		return run{}, 0, api.ErrPoint
	}
	for i := range at {
		if !rational.May(at[i]) {
			return run{}, i, api.ErrRat
		}
	}
	r := run{live: live, at: at, count: len(t.Ops)}
	for old, now := range to {
		if now >= 0 {
			r.number = append(r.number, old)
		}
	}
	return r, 0, api.OK
}

// fault is the first fault of the lists, and its place.
func (s seeds) fault(t api.Tape) (int, api.Errno) {
	if i, e := listsFault(s.weights, len(t.Outs), api.ErrWeights); e != api.OK {
		return i, e
	}
	return listsFault(s.along, t.Inputs, api.ErrSeeds)
}

// listsFault is the first fault of lists that are to have so many numbers each, and its place; unlike is the fault of another length.
func listsFault(lists [][]api.Rat, length int, unlike api.Errno) (int, api.Errno) {
	if len(lists) > api.MaxSeeds {
		return api.MaxSeeds, api.ErrSeeds
	}
	for i, l := range lists {
		if len(l) != length {
			return i, unlike
		}
		for k := range l {
			if !rational.May(l[k]) {
				return i, api.ErrRat
			}
		}
	}
	return 0, api.OK
}

// large is what the first look at weights that finds something finds: without a
// direction, with each list of weights, with each direction.
func (r run) large(s seeds) (int, bool) {
	if n, found := r.heavy(tape.Large(r.live, r.at, nil)); found {
		return n, true
	}
	for _, w := range s.weights {
		if n, found := r.heavy(tape.LargeSum(r.live, r.at, nil, w)); found {
			return n, true
		}
	}
	for _, v := range s.along {
		if n, found := r.heavy(r.largeAlong(v, s.weights)); found {
			return n, true
		}
	}
	return 0, false
}

// largeAlong is the look along a direction, with the weights, if there are any.
func (r run) largeAlong(v []api.Rat, weights [][]api.Rat) (int, bool, api.Errno) {
	if len(weights) == 0 {
		return tape.Large(r.live, r.at, v)
	}
	return tape.LargeSum(r.live, r.at, v, weights[0])
}

// heavy is what a look at the live nodes' weights has found, by the numbers of the tape that was handed in.
func (r run) heavy(n int, found bool, _ api.Errno) (int, bool) {
	switch {
	case !found:
		return 0, false
	case n == len(r.number):
		// The sum stands behind all nodes, behind those that are not live too.
		return r.count, true
	}
	return r.number[n], true
}

// work works out the nodes' values, up to the first pole: its number, if there is one.
func (r *run) work() (int, bool) {
	for i := range len(r.live.Ops) {
		n := nodeOf(r.live.Ops[i], r.at)
		x := those(r.values, n.places)
		if n.pole(x) {
			return r.number[i], true
		}
		r.nodes = append(r.nodes, n)
		r.values = append(r.values, n.value(x))
	}
	return 0, false
}

// spread is the live nodes' numbers where the nodes stood, and 0 for the others; in new memory.
func (r run) spread(l []api.Rat) []api.Rat {
	z := zeros(r.count)
	for i, n := range r.number {
		z[n] = copyRat(l[i])
	}
	return z
}

// outputs are the outputs' numbers out of the nodes'; in new memory.
func (r run) outputs(l []api.Rat) []api.Rat {
	return copyRats(those(l, r.live.Outs))
}

// inputs are the inputs' sums of the numbers of the nodes that are this input; in new memory.
func (r run) inputs(l []api.Rat) []api.Rat {
	sums := zeros(r.live.Inputs)
	for i, op := range r.live.Ops {
		if op.Kind == api.OpInput {
			sums[op.A] = sum(sums[op.A], l[i])
		}
	}
	return copyRats(sums)
}
