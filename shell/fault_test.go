package shell

import (
	"errors"
	"slices"
	"strings"
	"testing"

	"slope/api"
)

// What goes wrong is an error that wraps number and place, and is found by errors.As, also within a line's.
func TestFaults(t *testing.T) {
	if refused(7, api.OK) != nil {
		t.Errorf("a refusal of nothing")
	}
	err := refused(7, api.ErrPole)
	var r refusal
	if !errors.As(err, &r) || r.number != api.ErrPole || r.place != 7 || err.Error() != "9 7" {
		t.Errorf("%v", err)
	}
	f := error(lineFault{3, err})
	r = refusal{}
	if !errors.As(f, &r) || r != (refusal{api.ErrPole, 7}) || f.Error() != "line 3: 9 7" {
		t.Errorf("%v", f)
	}
	if at, e := told(err); at != 7 || e != api.ErrPole {
		t.Errorf("%d, %d", at, e)
	}
	if at, e := told(f); at != 3 || e != api.ErrPole {
		t.Errorf("%d, %d", at, e)
	}
}

// A refused command changes nothing of the state, and answers no lines.
func TestStateStays(t *testing.T) {
	for word, f := range steps() {
		for _, arguments := range []string{"x x x x", "1 2 3 4 x", "foo", "-1", ""} {
			c := command{words: append([]string{word}, strings.Fields(arguments)...), text: "foo\n"}
			c.arguments = c.words[1:]
			s := beginning()
			lines, err := f(s, c)
			if err != nil && len(lines) > 0 {
				t.Errorf("%s %s: %q beside %v", word, arguments, lines, err)
			}
			if err != nil && (s.model != nil || s.tape != nil || s.point != nil || s.weights != nil || s.direction != nil || s.way != (api.Way{}) || s.plan.Mode != 1 || s.plan.Route != 1 || s.plan.Order != 1 || s.plan.Script != nil || s.plan.Workers != 1) {
				t.Errorf("%s %s: %v leaves %v", word, arguments, err, s)
			}
			if err == nil && s.model == nil && s.tape == nil && len(lines) > 0 {
				t.Errorf("%s %s: %q of nothing", word, arguments, lines)
			}
		}
	}
}

// What the settings leave in the state: each just its own, and order no script but its own.
func TestSettings(t *testing.T) {
	s, table := beginning(), steps()
	set := func(line string) {
		t.Helper()
		l, err := commandsOf(line)
		if err != nil || len(l) != 1 {
			t.Fatalf("%q: %v, %v", line, l, err)
		}
		if lines, err := s.do(table, l[0]); err != nil || len(lines) != 0 {
			t.Fatalf("%q: %q, %v", line, lines, err)
		}
	}
	is := func(mode api.Mode, route api.Route, order api.OrderKind, script []int, workers int) {
		t.Helper()
		p := s.plan
		if p.Mode != mode || p.Route != route || p.Order != order || !slices.Equal(p.Script, script) || p.Workers != workers {
			t.Errorf("%v", p)
		}
	}
	is(api.ModeColumns, api.RouteStar, api.OrderNatural, nil, 1)
	set("mode rows")
	is(api.ModeRows, api.RouteStar, api.OrderNatural, nil, 1)
	set("route acyclic")
	is(api.ModeRows, api.RouteAcyclic, api.OrderNatural, nil, 1)
	set("order script 2 0 -7")
	is(api.ModeRows, api.RouteAcyclic, api.OrderScript, []int{2, 0, -7}, 1)
	set("workers -99")
	is(api.ModeRows, api.RouteAcyclic, api.OrderScript, []int{2, 0, -7}, -99)
	set("order script")
	is(api.ModeRows, api.RouteAcyclic, api.OrderScript, nil, -99)
	set("order script 1")
	set("order smallest")
	is(api.ModeRows, api.RouteAcyclic, api.OrderSmallest, nil, -99)
	set("way fold copy")
	if s.way != (api.Way{Copy: true, Fold: true}) {
		t.Errorf("%v", s.way)
	}
	set("point 1 2")
	set("weights 3")
	set("along")
	if numbersLine(s.point) != "1 2" || numbersLine(s.weights) != "3" || len(s.direction) != 0 || s.model != nil || s.tape != nil {
		t.Errorf("%v", s)
	}
	is(api.ModeRows, api.RouteAcyclic, api.OrderSmallest, nil, -99)
}
