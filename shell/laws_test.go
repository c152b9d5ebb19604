package shell_test

import (
	"fmt"
	"slices"
	"strings"
	"sync"
	"testing"

	"slope/api"
	"slope/shell"
)

// asPlain fails if a script isn't answered as the plain shell answers it.
func asPlain(t *testing.T, script string) string {
	t.Helper()
	s, at, e := shell.Run(script)
	if want, wantAt, wantE := plainRun(script); s != want || at != wantAt || e != wantE {
		t.Fatalf("%q:\n%s\nplace %d, error %d; want\n%s\nplace %d, error %d", script, short(s), at, e, short(want), wantAt, wantE)
	}
	return s
}

// P18.1 to P18.3: scripts at random, held against a plain shell that tells each command's lines by the calls of the layers above; every command with lines that it puts out, and refused.
func TestAsPlain(t *testing.T) {
	t.Parallel()
	done, refused, numbers := map[string]int{}, map[string]int{}, map[string]int{}
	for i := range 4000 {
		d := dice(i)
		for _, c := range chunks(asPlain(t, strings.Join(d.script(6+d.next(30)), ""))) {
			word := strings.Fields(c.line)[0]
			if len(c.lines) > 0 && strings.HasPrefix(c.lines[0], "! ") {
				refused[word]++
				numbers[strings.Fields(c.lines[0])[1]]++
			} else {
				done[word]++
			}
		}
	}
	for _, word := range commands() {
		if done[word] < 100 || refused[word] < 20 {
			t.Errorf("%s was done %d times, refused %d times", word, done[word], refused[word])
		}
	}
	for _, e := range []api.Errno{api.ErrArg, api.ErrLine, api.ErrShape, api.ErrPole, api.ErrByte, api.ErrNumber, api.ErrWant, api.ErrEnds, api.ErrName, api.ErrOutputs, api.ErrPoint, api.ErrWay, api.ErrWeights, api.ErrOrder, api.ErrOrderKind, api.ErrVariable, api.ErrMode, api.ErrRoute, api.ErrWorkers, api.ErrWord, api.ErrEarly} {
		if numbers[fmt.Sprint(int(e))] < 5 {
			t.Errorf("error %d was met %d times", e, numbers[fmt.Sprint(int(e))])
		}
	}
}

// DOC.md's P1: whatever a script is made of, Run answers, and as the plain shell does.
func TestAnyBytes(t *testing.T) {
	t.Parallel()
	pieces := append(commands(), strings.Split("\n|\n|\n|\n|\n| | |\t|\r|end\n|\nend\n|in x\n|in x, y\n|out x\n|out x * y, x / y\n|inputs 2\n|in 0\n|in 1\n|mul 0 1\n|div 0 1\n|out 0\n|out 2\n|#|x|y|0|1|2|-1|1/2|1/0|model|tape|copy|fold|script|natural|columns|push|\x00|\xff|é|\v|model\nin x, y\nout x * y, x / y\nend\nrecord\npoint 1 2\n|[|(|^|\u2028|e|1e9", "|")...)
	for i := range 12000 {
		d := dice(i)
		s := ""
		for range d.next(60) {
			s += pick(&d, pieces...) + pick(&d, "", " ")
		}
		asPlain(t, s)
	}
	for i := range 3000 { // bytes alone
		d := dice(i)
		b := make([]byte, d.next(200))
		for k := range b {
			b[k] = pick(&d, byte(d.next(256)), '\n', ' ', 'x', '#')
		}
		asPlain(t, string(b))
	}
}

// P18.4: a script that is cut off behind a command's line (and its text) has the transcript's beginning, which ends where the command's lines do.
func TestCutOff(t *testing.T) {
	t.Parallel()
	scripts := [][]string{
		{pageModel, "record\n", "point 3 1/2\n", "values\n", "foo\n", "\n", "# c\n", "jacobian\n", "diff x\n", "text\n", "model x\nin x\nend\n", "show model\n", doubled, "show tape\n", "clean\n", "values"},
	}
	for i := range 150 {
		d := dice(i)
		scripts = append(scripts, d.script(20))
	}
	for _, parts := range scripts {
		whole := run(t, strings.Join(parts, ""))
		begin, ahead := "", ""
		for i, part := range parts {
			begin += part
			if openText(begin) {
				break // this text has no end: what follows is its own
			}
			s := run(t, begin)
			if !strings.HasPrefix(whole, s) || !strings.HasPrefix(s, ahead) || s != whole && !strings.HasPrefix(whole[len(s):], "> ") {
				t.Fatalf("%q, cut off behind part %d:\n%s\nof\n%s", strings.Join(parts, ""), i, short(s), short(whole))
			}
			// neither the newline at the end nor the end of a text is needed
			if bare := strings.TrimSuffix(begin, "\n"); run(t, bare) != s {
				t.Fatalf("%q: without its newline:\n%s\nwant\n%s", bare, short(run(t, bare)), short(s))
			}
			if text, found := strings.CutSuffix(begin, "\nend\n"); found && openText(text+"\n") && run(t, text+"\n") != s {
				t.Fatalf("%q: without its end:\n%s\nwant\n%s", text, short(run(t, text+"\n")), short(s))
			}
			ahead = s
		}
	}
}

// openText tells whether a script ends within a text.
func openText(script string) bool {
	open := false
	for line := range strings.Lines(script) {
		words := strings.FieldsFunc(line, func(r rune) bool { return strings.ContainsRune(" \t\r\n", r) })
		switch {
		case open:
			open = !slices.Equal(words, []string{"end"})
		case len(words) > 0:
			open = words[0] == "model" || words[0] == "tape"
		}
	}
	return open
}

// P18.4 and DOC.md's P2 and P8: the same script has the same transcript, whatever was run ahead of it or runs at the same time.
func TestSameScript(t *testing.T) {
	t.Parallel()
	var scripts, want []string
	for i := range 60 {
		d := dice(1000 + i)
		scripts = append(scripts, strings.Join(d.script(25), "")+"workers 16\nmode dense\njacobian\nroute dense\nhessian\npatterns\ncolours\n")
		want = append(want, run(t, scripts[i]))
	}
	var all sync.WaitGroup
	for w := range 8 {
		all.Go(func() {
			for i := range scripts {
				i = (i*7 + w*13) % len(scripts)
				if got, at, e := shell.Run(scripts[i]); got != want[i] || at != 0 || e != api.OK {
					t.Errorf("%q:\n%s\nplace %d, error %d; ahead of that\n%s", scripts[i], short(got), at, e, short(want[i]))
				}
			}
		})
	}
	all.Wait()
	// nothing is kept from one script to the next
	run(t, page+"way fold\nmode rows\nroute push\norder script 1 0\nworkers 0\n")
	is(t, "show model\nshow tape\nvalues\n", "> show model\n! 361 0\n> show tape\n! 361 0\n> values\n! 361 0\n")
	below(t, root+"values", "-1")
	below(t, strings.Replace(root, "point 1\n", "", 1)+"values", "! 109 0")
	below(t, pageModel+"record\npoint 3 1/2\nhessian", "! 141 0")
	below(t, page+"jacobian", "sweeps 2|0 0 5/2|0 1 9|1 0 1|1 1 0")
}

// works tells of each command what it works on, beside its own arguments.
func works() map[string]string {
	return map[string]string{
		"record": "model way", "tell": "tape", "flat": "model", "simplify": "model", "diff x": "model", "gradient 0": "model", "fix x 2": "model",
		"trim": "tape", "merge": "tape", "clean": "tape", "blend": "tape weights",
		"show model": "model", "show tape": "tape", "text": "model", "eval": "model point", "values": "tape point",
		"jacobian": "tape point mode order workers", "hessian": "tape point weights route order workers", "patterns": "tape", "colours": "tape mode route order",
		"series 3": "tape point along", "rank": "tape point mode order workers", "det": "tape point mode order workers", "solve 1 2": "tape point mode order workers", "newton 3": "tape point",
	}
}

// P18.4: a command's lines hang on no command of another kind than those that set what it works on; and on those they do.
func TestWorksOn(t *testing.T) {
	t.Parallel()
	setters := map[string][]string{
		"model": {"model\nin x\nout x, 2 * x, 3\nend\n", "model\nin x, y\nout 1 / (x - x)\nend\n"}, "tape": {doubled, "tape\ninputs 1\nin 0\nout 0\nend\n", "tape\ninputs 0\nconst 2\nout 0\nend\n"},
		"point": {"point\n", "point 0 0\n", "point 7 8\n"}, "weights": {"weights\n", "weights 5 5\n"}, "along": {"along\n", "along 2 3\n"},
		"way": {"way copy\n", "way balance fold\n"}, "mode": {"mode rows\n", "mode dense\n"}, "route": {"route acyclic\n", "route push\n", "route dense\n"},
		"order": {"order largest\n", "order smallest\n", "order incidence\n", "order script 1 0\n", "order script\n"}, "workers": {"workers 3\n", "workers 0\n"},
	}
	telling := []string{"foo\n", "values\n", "jacobian\n", "hessian\n", "patterns\n", "colours\n", "show model\n", "show tape\n", "text\n", "eval\n", "series 2\n", "rank\n", "det\n", "solve 1 1\n", "newton 2\n", "point x\n", "way x\n", "\n", "# c\n"}
	// a tape beside the model that is not the model's own
	begin := pageModel + "tape\ninputs 2\nin 0\nin 1\nmul 0 0\nmul 1 1\nadd 3 3\nout 2\nout 4\nend\npoint 3 1/2\nweights 1 2\nalong 1 1\n"
	hangs := map[string]bool{}
	for command, on := range works() {
		want := last(t, begin+command)
		if strings.HasPrefix(want, "!") {
			t.Errorf("%s: %s", command, want)
		}
		for kind, l := range setters {
			for _, setter := range l {
				got := last(t, begin+setter+command)
				if !slices.Contains(strings.Fields(on), kind) && got != want {
					t.Errorf("%s hangs on %q: %s, else %s", command, setter, got, want)
				}
				if got != want {
					hangs[command+": "+kind] = true
				}
			}
		}
		for _, other := range telling {
			if got := last(t, begin+other+command); got != want {
				t.Errorf("%s hangs on %q: %s, else %s", command, other, got, want)
			}
		}
	}
	for command, on := range works() {
		for _, kind := range strings.Fields(on) {
			if kind == "mode" && slices.Contains([]string{"rank", "det", "solve 1 2"}, command) {
				continue // but for a script that is no order of the rows no mode can be seen there
			}
			if !hangs[command+": "+kind] {
				t.Errorf("%s does not hang on %s", command, kind)
			}
		}
	}
}

// withoutPlan is a transcript without the commands of the plan, the sweeps' lines and the colours'.
func withoutPlan(transcript string) string {
	s := ""
	for _, c := range chunks(transcript) {
		switch strings.Fields(c.line)[0] {
		case "mode", "route", "order", "workers", "colours":
			continue
		}
		s += c.line + "\n"
		for _, line := range c.lines {
			if !strings.HasPrefix(line, "sweeps ") {
				s += line + "\n"
			}
		}
	}
	return s
}

// Mode, route, order and workers change no line but the sweeps' and the colours'; workers not even those.
func TestPolicy(t *testing.T) {
	t.Parallel()
	telling := "values\njacobian\nhessian\npatterns\ncolours\nseries 2\nrank\ndet\nsolve 1 2 3\nsolve 1\nsolve 1 2\nnewton 2\nclean\njacobian\nblend\nweights -2\nhessian\n"
	for i := range 40 {
		d := dice(i)
		n := 1 + d.next(3)
		th := theme{n, n} // square, so that one script is an order of columns, of rows and of the Hessian's vertices
		begin := pick(&d, d.tapePart, d.modelPart)(th)
		if openText(begin) {
			continue
		}
		if strings.HasPrefix(strings.TrimLeft(begin, " \t"), "model") {
			begin += "record\n"
		}
		for _, list := range []string{"point", "weights", "along"} {
			begin += list
			for range n {
				begin += " " + d.number()
			}
			begin += "\n"
		}
		want := run(t, begin+telling)
		script := strings.Trim(fmt.Sprint(d.shuffle(n)), "[]")
		for _, mode := range []string{"columns", "rows", "dense"} {
			for _, route := range []string{"star", "acyclic", "push", "dense"} {
				for _, order := range []string{"natural", "largest", "smallest", "incidence", "script " + script} {
					plan := "mode " + mode + "\nroute " + route + "\norder " + order + "\n"
					one := run(t, begin+plan+telling)
					if withoutPlan(one) != withoutPlan(want) {
						t.Fatalf("%q, %q:\n%s\nwant\n%s", begin, plan, short(withoutPlan(one)), short(withoutPlan(want)))
					}
					workers := fmt.Sprintf("workers %d\n", 2+d.next(15))
					if many := run(t, begin+plan+workers+telling); strings.Replace(many, "> "+workers, "", 1) != one {
						t.Fatalf("%q, %q, %q:\n%s\nwant\n%s", begin, plan, workers, short(many), short(one))
					}
				}
			}
		}
	}
}
