package shell

import (
	"slices"

	"slope/api"
	"slope/formula"
	"slope/record"
	"slope/symbolic"
)

func (s *state) readModel(c command) ([]string, error) {
	if err := c.count(0); err != nil {
		return nil, err
	}
	return s.keepModel(formula.Parse(c.text))
}

func (s *state) tellTape(c command) ([]string, error) {
	t, err := c.tapeAlone(s)
	if err != nil {
		return nil, err
	}
	return s.keepModel(record.Tell(t))
}

func (s *state) flatten(c command) ([]string, error) { return s.rewrite(c, record.Flat) }

func (s *state) simplify(c command) ([]string, error) { return s.rewrite(c, symbolic.Simplify) }

// rewrite has as the model what a call makes of it.
func (s *state) rewrite(c command, call func(api.Model) (api.Model, int, api.Errno)) ([]string, error) {
	m, err := c.modelAlone(s)
	if err != nil {
		return nil, err
	}
	return s.keepModel(call(m))
}

func (s *state) diff(c command) ([]string, error) {
	if err := c.count(1); err != nil {
		return nil, err
	}
	m, i, err := s.modelAndInput(c.arguments[0])
	if err != nil {
		return nil, err
	}
	return s.keepModel(symbolic.Diff(m, i))
}

func (s *state) fix(c command) ([]string, error) {
	if err := c.count(2); err != nil {
		return nil, err
	}
	l, err := all(c, 1, number)
	if err != nil {
		return nil, err
	}
	m, i, err := s.modelAndInput(c.arguments[0])
	if err != nil {
		return nil, err
	}
	return s.keepModel(symbolic.Fix(m, i, l[0]))
}

// modelAndInput is the model, and the number of its input of a name that is a command's first argument.
func (s *state) modelAndInput(name string) (api.Model, int, error) {
	m, err := s.theModel()
	if err != nil {
		return api.Model{}, 0, err
	}
	i := slices.Index(m.Inputs, name)
	if i < 0 {
		return api.Model{}, 0, refusal{api.ErrVariable, 1}
	}
	return m, i, nil
}

func (s *state) gradient(c command) ([]string, error) {
	output, err := only(c, whole, api.ErrArg)
	if err != nil {
		return nil, err
	}
	m, err := s.theModel()
	if err != nil {
		return nil, err
	}
	return s.keepModel(symbolic.Gradient(m, output))
}

func (s *state) show(c command) ([]string, error) {
	textOn, err := only(c, printerOf, api.ErrArg)
	if err != nil {
		return nil, err
	}
	text, err := textOn(s)
	if err != nil {
		return nil, err
	}
	return linesOf(text), nil
}

// printerOf tells what is shown.
func printerOf(word string) (func(*state) (string, error), bool) {
	switch word {
	case "model":
		return (*state).printModel, true
	case "tape":
		return (*state).printTape, true
	}
	return nil, false
}

func (s *state) printModel() (string, error) {
	m, err := s.theModel()
	if err != nil {
		return "", err
	}
	text, e := formula.Print(m)
	return text, refused(0, e)
}

func (s *state) normalTexts(c command) ([]string, error) {
	m, err := c.modelAlone(s)
	if err != nil {
		return nil, err
	}
	return linesTold(symbolic.Text(m))
}

func (s *state) eval(c command) ([]string, error) {
	m, err := c.modelAlone(s)
	if err != nil {
		return nil, err
	}
	return numbersTold(record.Value(m, s.point))
}
