package shell_test

import (
	"fmt"
	"strings"
	"testing"

	"slope/api"
	"slope/shell"
)

// dice throws numbers that are the same in every run.
type dice uint64

func (d *dice) next(n int) int {
	*d = *d*6364136223846793005 + 1442695040888963407
	return int(uint32(*d>>32)) % n
}

// pick is one of a list.
func pick[T any](d *dice, l ...T) T { return l[d.next(len(l))] }

// short is the beginning of a long message.
func short(s string) string {
	if len(s) > 3000 {
		return s[:3000] + fmt.Sprintf(".. (%d bytes)", len(s))
	}
	return s
}

// run is the transcript of a script that has one.
func run(t *testing.T, script string) string {
	t.Helper()
	s, at, e := shell.Run(script)
	if at != 0 || e != api.OK {
		t.Fatalf("%q: place %d, error %d", short(script), at, e)
	}
	return s
}

// is fails if a script's transcript isn't this one.
func is(t *testing.T, script, want string) {
	t.Helper()
	if got := run(t, script); got != want {
		t.Errorf("%q:\n%s\nwant\n%s", short(script), short(got), short(want))
	}
}

// lines are lines, each with a newline behind it.
func lines(l ...string) string { return strings.Join(l, "\n") + "\n" }

// chunk is a command of a transcript: its line, and the lines below it.
type chunk struct {
	line  string
	lines []string
}

// chunks takes a transcript apart. (No line that a command puts out begins with >.)
func chunks(transcript string) []chunk {
	var l []chunk
	for line := range strings.Lines(transcript) {
		line = strings.TrimSuffix(line, "\n")
		if words, found := strings.CutPrefix(line, "> "); found {
			l = append(l, chunk{line: words})
		} else {
			l[len(l)-1].lines = append(l[len(l)-1].lines, line)
		}
	}
	return l
}

// last is what the last command of a script puts out, its lines with | between.
func last(t *testing.T, script string) string {
	t.Helper()
	l := chunks(run(t, script))
	if len(l) == 0 {
		t.Fatalf("%q: no command", short(script))
	}
	return strings.Join(l[len(l)-1].lines, "|")
}

// below fails if the last command of a script doesn't put out these lines, with | between.
func below(t *testing.T, script, want string) {
	t.Helper()
	if got := last(t, script); got != want {
		t.Errorf("%q:\n%s\nwant\n%s", short(script), short(got), short(want))
	}
}

// Scripts that many tests begin with.
const (
	// DOC.md's model, recorded: u = x * y; u^2 + x, u / y.
	pageModel = "model\nin x, y\nlet u = x * y\nout u ^ 2 + x, u / y\nend\n"
	page      = pageModel + "record\npoint 3 1/2\nweights 1 0\nalong 1 0\n"
	// Chapter 5's tape, with nodes that are like others, and such as are not live.
	doubled = "tape\ninputs 2\nin 0\nin 1\nmul 0 1\nmul 1 0\nadd 2 3\npow 0 -2\nconst 3/2\nout 4\nout 4\nend\n"
	// x + y and 2x + 2y: the rank is 1.
	flat = "tape\ninputs 2\nin 0\nin 1\nadd 0 1\nadd 2 2\nout 2\nout 3\nend\npoint 5 7\n"
	// A tape without inputs.
	bare = "tape\ninputs 0\nconst 2\nout 0\nend\nweights 1\n"
	// x^2 - 2, from 1 on.
	root = "tape\ninputs 1\nin 0\npow 0 2\nconst -2\nadd 1 2\nout 3\nend\npoint 1\n"
	// Ten squares: the patterns are diagonals.
	squares = "model\nin a, b, c, d, e, f, g, h, i, j\nout a*a, b*b, c*c, d*d, e*e, f*f, g*g, h*h, i*i, j*j\nend\nrecord\npoint 0 1 2 3 4 5 6 7 8 9\nweights 1 1 1 1 1 1 1 1 1 1\n"
)

// commands are all of the chapter's.
func commands() []string {
	return strings.Fields("model tape way mode route order workers point weights along record tell flat simplify diff gradient fix trim merge clean blend show text eval values jacobian hessian patterns colours series rank det solve newton")
}
