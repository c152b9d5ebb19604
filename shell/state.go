package shell

import (
	"errors"
	"strings"

	"slope/api"
)

// state is what a script has while it is run.
type state struct {
	model     *api.Model // nil: there is none
	tape      *api.Tape  // nil: there is none
	point     []api.Rat
	weights   []api.Rat
	direction []api.Rat
	way       api.Way
	plan      api.Plan
}

// beginning is what a script has at first.
func beginning() *state {
	return &state{plan: api.Plan{Mode: api.ModeColumns, Route: api.RouteStar, Order: api.OrderNatural, Workers: 1}}
}

// step does a command: the lines that it puts out, or why it is refused. It changes nothing then.
type step func(*state, command) ([]string, error)

// steps are the commands by their words.
func steps() map[string]step {
	return map[string]step{
		"model": (*state).readModel,
		"tape":  (*state).readTape,

		"way":     (*state).setWay,
		"mode":    (*state).setMode,
		"route":   (*state).setRoute,
		"order":   (*state).setOrder,
		"workers": (*state).setWorkers,
		"point":   (*state).setPoint,
		"weights": (*state).setWeights,
		"along":   (*state).setDirection,

		"record":   (*state).recordModel,
		"tell":     (*state).tellTape,
		"flat":     (*state).flatten,
		"simplify": (*state).simplify,
		"diff":     (*state).diff,
		"gradient": (*state).gradient,
		"fix":      (*state).fix,
		"trim":     (*state).trim,
		"merge":    (*state).merge,
		"clean":    (*state).clean,
		"blend":    (*state).blend,

		"show":     (*state).show,
		"text":     (*state).normalTexts,
		"eval":     (*state).eval,
		"values":   (*state).values,
		"jacobian": (*state).jacobian,
		"hessian":  (*state).hessian,
		"patterns": (*state).patterns,
		"colours":  (*state).colours,
		"series":   (*state).expand,
		"rank":     (*state).rank,
		"det":      (*state).determinant,
		"solve":    (*state).solveSystem,
		"newton":   (*state).newton,
	}
}

// transcript runs commands, one behind the other, and tells what they come to.
func transcript(l []command) string {
	s, table := beginning(), steps()
	var z strings.Builder
	for _, c := range l {
		z.WriteString("> " + strings.Join(c.words, " ") + "\n")
		lines, err := s.do(table, c)
		var r refusal
		if errors.As(err, &r) {
			lines = []string{"! " + r.Error()}
		}
		z.WriteString(textOf(lines))
	}
	return z.String()
}

// do does one command.
func (s *state) do(table map[string]step, c command) ([]string, error) {
	f, found := table[c.words[0]]
	if !found {
		return nil, refusal{api.ErrWord, 0}
	}
	return f(s, c)
}

// theModel is the model that a command works on.
func (s *state) theModel() (api.Model, error) {
	if s.model == nil {
		return api.Model{}, refusal{api.ErrEarly, 0}
	}
	return *s.model, nil
}

// theTape is the tape that a command works on.
func (s *state) theTape() (api.Tape, error) {
	if s.tape == nil {
		return api.Tape{}, refusal{api.ErrEarly, 0}
	}
	return *s.tape, nil
}

// keepModel has what a call answers as the model.
func (s *state) keepModel(m api.Model, place int, e api.Errno) ([]string, error) {
	if e != api.OK {
		return nil, refusal{e, place}
	}
	s.model = &m
	return []string{modelLine(m)}, nil
}

// keepTape has what a call answers as the tape.
func (s *state) keepTape(t api.Tape, place int, e api.Errno) ([]string, error) {
	if e != api.OK {
		return nil, refusal{e, place}
	}
	s.tape = &t
	return []string{tapeLine(t)}, nil
}
