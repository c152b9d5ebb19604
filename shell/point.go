package shell

import (
	"slope/api"
	"slope/engine"
	"slope/series"
	"slope/solve"
)

func (s *state) values(c command) ([]string, error) {
	t, err := c.tapeAlone(s)
	if err != nil {
		return nil, err
	}
	return numbersTold(engine.Values(t, s.point))
}

func (s *state) jacobian(c command) ([]string, error) {
	t, err := c.tapeAlone(s)
	if err != nil {
		return nil, err
	}
	return matrixTold(engine.Jacobian(t, s.point, s.plan))
}

func (s *state) hessian(c command) ([]string, error) {
	t, err := c.tapeAlone(s)
	if err != nil {
		return nil, err
	}
	return matrixTold(engine.Hessian(t, s.point, s.weights, s.plan))
}

func (s *state) expand(c command) ([]string, error) {
	degree, err := only(c, whole, api.ErrArg)
	if err != nil {
		return nil, err
	}
	t, err := s.theTape()
	if err != nil {
		return nil, err
	}
	l, place, e := series.Expand(t, s.point, s.direction, degree)
	return linesTold(numberLines(l), place, e)
}

// system is the Jacobian at the point.
func (s *state) system() (api.Matrix, error) {
	t, err := s.theTape()
	if err != nil {
		return api.Matrix{}, err
	}
	m, _, place, e := engine.Jacobian(t, s.point, s.plan)
	return m, refused(place, e)
}

// systemAlone is the Jacobian at the point, for a command without arguments.
func (c command) systemAlone(s *state) (api.Matrix, error) {
	if err := c.count(0); err != nil {
		return api.Matrix{}, err
	}
	return s.system()
}

func (s *state) rank(c command) ([]string, error) {
	m, err := c.systemAlone(s)
	if err != nil {
		return nil, err
	}
	l, e := solve.First(m)
	return linesTold([]string{wholes(l...)}, 0, e)
}

func (s *state) determinant(c command) ([]string, error) {
	m, err := c.systemAlone(s)
	if err != nil {
		return nil, err
	}
	d, e := solve.Determinant(m)
	return numbersTold([]api.Rat{d}, 0, e)
}

func (s *state) solveSystem(c command) ([]string, error) {
	b, err := all(c, 0, number)
	if err != nil {
		return nil, err
	}
	m, err := s.system()
	if err != nil {
		return nil, err
	}
	x, _, e := solve.Solve(m, b)
	if e == api.ErrNone {
		return []string{"none"}, nil
	}
	return numbersTold(x, 0, e)
}

func (s *state) newton(c command) ([]string, error) {
	steps, err := only(c, whole, api.ErrArg)
	if err != nil {
		return nil, err
	}
	t, err := s.theTape()
	if err != nil {
		return nil, err
	}
	w, place, e := solve.Newton(t, s.point, steps)
	return linesTold(append(numberLines(w.Points), wholes(w.End, w.Node)), place, e)
}
