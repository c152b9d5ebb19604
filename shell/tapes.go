package shell

import (
	"slope/api"
	"slope/engine"
	"slope/record"
	"slope/tape"
)

func (s *state) readTape(c command) ([]string, error) {
	if err := c.count(0); err != nil {
		return nil, err
	}
	return s.keepTape(tape.Parse(c.text))
}

func (s *state) recordModel(c command) ([]string, error) {
	m, err := c.modelAlone(s)
	if err != nil {
		return nil, err
	}
	return s.keepTape(record.Record(m, s.way))
}

func (s *state) trim(c command) ([]string, error) { return s.shorten(c, tape.Trim) }

func (s *state) merge(c command) ([]string, error) { return s.shorten(c, tape.Merge) }

func (s *state) clean(c command) ([]string, error) { return s.shorten(c, tape.Clean) }

// shorten has as the tape what a call leaves of it.
func (s *state) shorten(c command, call func(api.Tape) (api.Tape, []int, api.Errno)) ([]string, error) {
	t, err := c.tapeAlone(s)
	if err != nil {
		return nil, err
	}
	short, _, e := call(t)
	return s.keepTape(short, 0, e)
}

func (s *state) blend(c command) ([]string, error) {
	t, err := c.tapeAlone(s)
	if err != nil {
		return nil, err
	}
	sum, e := tape.Blend(t, s.weights)
	return s.keepTape(sum, 0, e)
}

func (s *state) printTape() (string, error) {
	t, err := s.theTape()
	if err != nil {
		return "", err
	}
	text, e := tape.Print(t)
	return text, refused(0, e)
}

func (s *state) patterns(c command) ([]string, error) {
	t, err := c.tapeAlone(s)
	if err != nil {
		return nil, err
	}
	first, second, place, e := engine.Patterns(t)
	if e != api.OK {
		return nil, refusal{e, place}
	}
	return append(patternLines(first), patternLines(second)...), nil
}

func (s *state) colours(c command) ([]string, error) {
	t, err := c.tapeAlone(s)
	if err != nil {
		return nil, err
	}
	first, n, e := engine.Colours(t, s.plan)
	if e != api.OK {
		return nil, refusal{e, 0}
	}
	second, m, e := engine.HessianColours(t, s.plan)
	if e != api.OK {
		return nil, refusal{e, 0}
	}
	return []string{coloursLine(n, first), coloursLine(m, second)}, nil
}
