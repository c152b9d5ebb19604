package shell

import (
	"slope/api"
	"slope/rational"
)

// count refuses a command that has not just so many arguments.
func (c command) count(n int) error {
	if len(c.arguments) != n {
		return refusal{api.ErrArg, 0}
	}
	return nil
}

// modelAlone is the model, for a command without arguments.
func (c command) modelAlone(s *state) (api.Model, error) {
	if err := c.count(0); err != nil {
		return api.Model{}, err
	}
	return s.theModel()
}

// tapeAlone is the tape, for a command without arguments.
func (c command) tapeAlone(s *state) (api.Tape, error) {
	if err := c.count(0); err != nil {
		return api.Tape{}, err
	}
	return s.theTape()
}

// only is what the one argument of a command is read as; unknown is the fault of what can't be read.
func only[T any](c command, read func(word string) (T, bool), unknown api.Errno) (T, error) {
	var none T
	if err := c.count(1); err != nil {
		return none, err
	}
	v, ok := read(c.arguments[0])
	if !ok {
		return none, refusal{unknown, 1}
	}
	return v, nil
}

// all is what the arguments behind the first so many are read as.
func all[T any](c command, behind int, read func(word string) (T, bool)) ([]T, error) {
	var l []T
	for i := behind; i < len(c.arguments); i++ {
		v, ok := read(c.arguments[i])
		if !ok {
			return nil, refusal{api.ErrArg, i + 1}
		}
		l = append(l, v)
	}
	return l, nil
}

func number(word string) (api.Rat, bool) {
	r, _, e := rational.Parse(word)
	return r, e == api.OK
}

func whole(word string) (int, bool) {
	r, ok := number(word)
	if !ok {
		return 0, false
	}
	return rational.Int(r)
}
