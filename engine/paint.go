package engine

import (
	"slope/api"
	"slope/colour"
	"slope/order"
	"slope/rational"
	"slope/regain"
)

// painting is a pattern, and the colours by which it is swept.
type painting struct {
	pattern api.Pattern
	colours []int
	number  int // of colours
}

// greedy are the colours of a kind that a plan's order makes: the order is one of the graph's vertices.
func greedy(kind api.ColourKind, p, graph api.Pattern, plan api.Plan) ([]int, int, api.Errno) {
	l, e := order.Order(plan.Order, graph, plan.Script)
	if e != api.OK {
		return nil, 0, e
	}
	return colour.Greedy(kind, p, l)
}

// apart are n colours, each of one thing alone.
func apart(n int) []int {
	l := make([]int, n)
	for i := range l {
		l[i] = i
	}
	return l
}

// swept is what a sweep makes of each colour's seed, and how many sweeps that took.
func (p painting) swept(workers int, sweep func(seed []api.Rat) []api.Rat) ([][]api.Rat, int) {
	seeds := turned(sure(regain.Seed(p.colours)), p.number)
	found := make([][]api.Rat, p.number)
	sweeps := deal(p.number, workers, func(c int) { found[c] = sweep(seeds[c]) })
	return found, sweeps
}

// turned are the columns of rows that have so many numbers each.
func turned(rows [][]api.Rat, width int) [][]api.Rat {
	columns := make([][]api.Rat, width)
	for c := range columns {
		columns[c] = make([]api.Rat, len(rows))
		for r := range rows {
			columns[c][r] = rows[r][c]
		}
	}
	return columns
}

// ones are the weights with which outputs are just added up.
func ones(n int) []api.Rat {
	l := make([]api.Rat, n)
	for i := range l {
		l[i] = rational.FromInt(1)
	}
	return l
}

// sure leaves away the error of what can't be refused: what is not large has no number on any way that is too large.
func sure[T any](v T, _ api.Errno) T { return v }
