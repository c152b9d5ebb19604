package symbolic

import (
	"slope/api"
	"slope/formula"
	"slope/rational"
	"slope/record"
)

// look tells what is wrong with a model and with numbers of inputs of it: the place, the error.
func look(m api.Model, inputs ...int) (int, api.Errno) {
	if at, e := formula.Check(m); e != api.OK {
		return at, e
	}
	for _, i := range inputs {
		if !within(i, len(m.Inputs)) {
			return 0, api.ErrVariable
		}
	}
	return 0, lookWork(m)
}

// lookOutput tells what is wrong with a model and the number of an output that is to be derived.
func lookOutput(m api.Model, output int) (int, api.Errno) {
	if at, e := formula.Check(m); e != api.OK {
		return at, e
	}
	if !within(output, len(m.Outs)) || len(m.Inputs) == 0 {
		return 0, api.ErrVariable
	}
	return 0, lookWork(m)
}

// lookNumber tells what is wrong with a model and a number that is to be put in for an input.
func lookNumber(m api.Model, input int, c api.Rat) (int, api.Errno) {
	if at, e := formula.Check(m); e != api.OK {
		return at, e
	}
	if !rational.May(c) {
		return 0, api.ErrRat
	}
	return look(m, input)
}

// lookWork tells whether working a model out, which may be, is too much.
func lookWork(m api.Model) api.Errno {
	n, _ := record.Work(m, api.Way{})
	if n > api.MaxUnroll {
		return api.ErrNodes
	}
	return api.OK
}

// within tells whether there is an item of that number.
func within(i, count int) bool { return i >= 0 && i < count }
