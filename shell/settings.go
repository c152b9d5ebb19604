package shell

import (
	"slices"

	"slope/api"
)

func (s *state) setWay(c command) ([]string, error) {
	if len(c.arguments) > 3 || hasTwice(c.arguments) {
		return nil, refusal{api.ErrArg, 0}
	}
	var w api.Way
	for i, word := range c.arguments {
		switch word {
		case "copy":
			w.Copy = true
		case "balance":
			w.Balance = true
		case "fold":
			w.Fold = true
		default:
			return nil, refusal{api.ErrWay, i + 1}
		}
	}
	s.way = w
	return nil, nil
}

// hasTwice tells whether some word comes twice.
func hasTwice(words []string) bool {
	for i, word := range words {
		if slices.Contains(words[:i], word) {
			return true
		}
	}
	return false
}

func (s *state) setMode(c command) ([]string, error) {
	m, err := only(c, modeOf, api.ErrMode)
	if err != nil {
		return nil, err
	}
	s.plan.Mode = m
	return nil, nil
}

func modeOf(word string) (api.Mode, bool) {
	m, known := map[string]api.Mode{
		"columns": api.ModeColumns,
		"rows":    api.ModeRows,
		"dense":   api.ModeDense,
	}[word]
	return m, known
}

func (s *state) setRoute(c command) ([]string, error) {
	r, err := only(c, routeOf, api.ErrRoute)
	if err != nil {
		return nil, err
	}
	s.plan.Route = r
	return nil, nil
}

func routeOf(word string) (api.Route, bool) {
	r, known := map[string]api.Route{
		"star":    api.RouteStar,
		"acyclic": api.RouteAcyclic,
		"push":    api.RoutePush,
		"dense":   api.RouteDense,
	}[word]
	return r, known
}

func (s *state) setOrder(c command) ([]string, error) {
	if len(c.arguments) == 0 {
		return nil, refusal{api.ErrArg, 0}
	}
	k, known := orderOf(c.arguments[0])
	switch {
	case !known:
		return nil, refusal{api.ErrOrderKind, 1}
	case k != api.OrderScript && len(c.arguments) > 1:
		return nil, refusal{api.ErrArg, 0}
	}
	script, err := all(c, 1, whole)
	if err != nil {
		return nil, err
	}
	s.plan.Order, s.plan.Script = k, script
	return nil, nil
}

func orderOf(word string) (api.OrderKind, bool) {
	k, known := map[string]api.OrderKind{
		"natural":   api.OrderNatural,
		"largest":   api.OrderLargest,
		"smallest":  api.OrderSmallest,
		"incidence": api.OrderIncidence,
		"script":    api.OrderScript,
	}[word]
	return k, known
}

func (s *state) setWorkers(c command) ([]string, error) {
	n, err := only(c, whole, api.ErrArg)
	if err != nil {
		return nil, err
	}
	s.plan.Workers = n
	return nil, nil
}

func (s *state) setPoint(c command) ([]string, error) { return keepList(&s.point, c) }

func (s *state) setWeights(c command) ([]string, error) { return keepList(&s.weights, c) }

func (s *state) setDirection(c command) ([]string, error) { return keepList(&s.direction, c) }

// keepList has a command's numbers as one of the lists.
func keepList(list *[]api.Rat, c command) ([]string, error) {
	l, err := all(c, 0, number)
	if err != nil {
		return nil, err
	}
	*list = l
	return nil, nil
}
