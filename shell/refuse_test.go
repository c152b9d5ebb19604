package shell_test

import (
	"fmt"
	"slices"
	"strings"
	"testing"

	"slope/api"
)

// refusal is the line that tells one.
func refusal(place int, e api.Errno) string { return fmt.Sprintf("! %d %d", e, place) }

// needs are the commands that work on a model, and on a tape, with arguments that may be.
func needs() (onModel, onTape []string) {
	return []string{"record", "flat", "simplify", "diff x", "gradient 0", "fix x 1", "show model", "text", "eval"},
		[]string{"tell", "trim", "merge", "clean", "blend", "show tape", "values", "jacobian", "hessian", "patterns", "colours", "series 1", "rank", "det", "solve 1 2", "newton 1"}
}

// P18.3: words that are no command, however many words stand behind.
func TestNoCommand(t *testing.T) {
	for _, word := range []string{"foo", "Model", "MODEL", "end", "end end", "out x", "in x, y", "columns", "quit", "second", "kernel", "1", "-", "values:", "values#", "jacobian.", "colors", ">", "!", "\x00", "é"} {
		below(t, word, refusal(0, api.ErrWord))
		below(t, word+" 1 2 3", refusal(0, api.ErrWord))
		below(t, page+word, refusal(0, api.ErrWord))
	}
}

// P18.3: more and fewer arguments than a command has, ahead of everything else.
func TestCounts(t *testing.T) {
	counts := map[string]int{}
	for _, word := range []string{"model", "tape", "record", "tell", "flat", "simplify", "trim", "merge", "clean", "blend", "text", "eval", "values", "jacobian", "hessian", "patterns", "colours", "rank", "det"} {
		counts[word] = 0
	}
	for _, word := range []string{"mode", "route", "workers", "diff", "gradient", "show", "series", "newton"} {
		counts[word] = 1
	}
	counts["fix"] = 2
	arguments := []string{"x", "1", "columns", "star", "model", "tape", "x y", "1 2", "x 1", "model tape", "1 2 3", "foo bar 1/0", "a b c d", "#", "# c"}
	for word, n := range counts {
		for _, ahead := range []string{"", page, page + bare} {
			if n > 0 {
				below(t, ahead+word, "! 1 0")
			}
			for _, a := range arguments {
				if len(strings.Fields(a)) != n {
					below(t, ahead+word+" "+a, "! 1 0")
				}
			}
		}
	}
	// all others take any number of numbers, or have a rule of their own
	for _, word := range commands() {
		if _, found := counts[word]; !found && !slices.Contains([]string{"way", "order", "point", "weights", "along", "solve"}, word) {
			t.Errorf("%s was not tested", word)
		}
	}
	is(t, "order\norder natural 1\norder largest x\norder smallest smallest\norder incidence 0 1\norder natural script\n",
		"> order\n! 1 0\n> order natural 1\n! 1 0\n> order largest x\n! 1 0\n> order smallest smallest\n! 1 0\n> order incidence 0 1\n! 1 0\n> order natural script\n! 1 0\n")
	is(t, "way copy balance fold x\nway a b c d e\nway copy copy\nway x x\nway fold x fold\nway x copy x\nway copy balance copy fold\n",
		"> way copy balance fold x\n! 1 0\n> way a b c d e\n! 1 0\n> way copy copy\n! 1 0\n> way x x\n! 1 0\n> way fold x fold\n! 1 0\n> way x copy x\n! 1 0\n> way copy balance copy fold\n! 1 0\n")
}

// P18.3: words that a command does not know, with the argument's number.
func TestUnknownWords(t *testing.T) {
	for _, c := range []struct{ command, want string }{
		{"way x", "! 120 1"}, {"way copy x", "! 120 2"}, {"way fold copy x", "! 120 3"}, {"way x y z", "! 120 1"}, {"way fold x y", "! 120 2"}, {"way Copy", "! 120 1"}, {"way fold balance copied", "! 120 3"}, {"way 0", "! 120 1"}, {"way fold,copy", "! 120 1"},
		{"mode x", "! 340 1"}, {"mode 1", "! 340 1"}, {"mode Columns", "! 340 1"}, {"mode star", "! 340 1"}, {"mode push", "! 340 1"}, {"mode column", "! 340 1"}, {"mode natural", "! 340 1"},
		{"route x", "! 341 1"}, {"route 1", "! 341 1"}, {"route rows", "! 341 1"}, {"route columns", "! 341 1"}, {"route STAR", "! 341 1"}, {"route natural", "! 341 1"},
		{"order x", "! 221 1"}, {"order 1", "! 221 1"}, {"order Natural", "! 221 1"}, {"order 0 1 2", "! 221 1"}, {"order foo bar", "! 221 1"}, {"order largest-first 1", "! 221 1"}, {"order dense", "! 221 1"},
		{"show x", "! 1 1"}, {"show models", "! 1 1"}, {"show point", "! 1 1"}, {"show Tape", "! 1 1"}, {"show 1", "! 1 1"},
	} {
		below(t, c.command, c.want)
		below(t, page+c.command, c.want)
	}
}

// P18.3: what is no number, what is no whole one, with the argument's number.
func TestNoNumbers(t *testing.T) {
	no := []string{"x", "+1", "1.", ".5", "1/", "/2", "1/0", "0/0", "1/2e3", "1e", "1e5000", "--1", "-", "1,2", "[1]", "1_000", "0x1", "1/-2", "e5", "inf", "1e+", "²", "1\x00", "#"}
	for _, word := range no {
		for _, command := range []string{"point", "weights", "along", "solve"} {
			below(t, command+" "+word, "! 1 1")
			below(t, command+" "+word+" "+word, "! 1 1")
			below(t, command+" 1 2/3 "+word, "! 1 3")
			below(t, command+" 1 2/3 "+word+" 1 x", "! 1 3")
			below(t, page+command+" 1 "+word, "! 1 2")
		}
		below(t, "fix x "+word, "! 1 2")
		below(t, page+"fix x "+word, "! 1 2")
		below(t, page+"fix z "+word, "! 1 2") // the argument ahead of the name
	}
	for _, word := range append(no, "1/2", "0.5", "1e-1", "-3/2", "9223372036854775808", "-9223372036854775809", "1e30", "1e4096") {
		for _, command := range []string{"workers", "gradient", "series", "newton"} {
			below(t, command+" "+word, "! 1 1")
			below(t, page+command+" "+word, "! 1 1")
		}
		below(t, "order script "+word, "! 1 2")
		below(t, "order script 0 1 "+word+" 2", "! 1 4")
		below(t, page+"order script 0 "+word+" x", "! 1 3")
	}
	// too large as it is written
	big := strings.Repeat("9", 19729)
	below(t, "point 1 "+big, "! 1 2")
	below(t, "point 1 1/"+big, "! 1 2")
	below(t, "point 1 "+big[1:], "")
	below(t, page+"fix x "+big, "! 1 2")
	below(t, "workers "+big[1:], "! 1 1")
}

// P18.3: commands that work on a model or on a tape where there is none.
func TestEarly(t *testing.T) {
	onModel, onTape := needs()
	for _, command := range onModel {
		below(t, command, "! 361 0")
		below(t, doubled+command, "! 361 0") // a tape is no model
		below(t, "point 1 2\nweights 1 2\nalong 1 2\nway\n"+command, "! 361 0")
		below(t, "model\nin x\nout x x\nend\n"+command, "! 361 0")
	}
	for _, command := range onTape {
		below(t, command, "! 361 0")
		below(t, pageModel+command, "! 361 0") // a model is no tape
		below(t, "point 1 2\nweights 1 2\nalong 1 2\nway\n"+command, "! 361 0")
		below(t, "tape\ninputs 1\nend\n"+command, "! 361 0")
	}
	// with them both all of them go
	for _, command := range slices.Concat(onModel, onTape) {
		got := last(t, page+command)
		if strings.HasPrefix(got, "!") {
			t.Errorf("%s: %s", command, got)
		}
	}
	// all commands are among these, or need nothing
	met := map[string]bool{}
	for _, command := range slices.Concat(onModel, onTape) {
		met[strings.Fields(command)[0]] = true
	}
	for _, word := range commands() {
		if !met[word] && !slices.Contains(strings.Fields("model tape way mode route order workers point weights along"), word) {
			t.Errorf("%s was not tested", word)
		}
	}
}

// P18.3: names that no input has; a let, a function and a parameter are none.
func TestVariables(t *testing.T) {
	model := "model\nin x, y\nfn f(a) = a\nlet u = f(x)\nout u * y\nend\n"
	for _, name := range []string{"z", "u", "f", "a", "X", "0", "1", "x,", "in", "out", "x0", "-x", "1/2", "#"} {
		below(t, model+"diff "+name, "! 300 1")
		below(t, model+"fix "+name+" 2", "! 300 1")
		below(t, "diff "+name, "! 361 0") // the model ahead of the name
		below(t, "fix "+name+" 2", "! 361 0")
	}
	below(t, model+"diff x\ntext", "1*y")
	below(t, model+"diff y\ntext", "1*x")
	below(t, model+"fix y 2\ntext", "2*x")
	below(t, "model\nout 1\nend\ndiff x", "! 300 1")
	below(t, "model\nout 1\nend\nfix x 1", "! 300 1")
	below(t, "model\nout 1\nend\ngradient 0", "! 300 0") // symbolic.Gradient's: no inputs
	below(t, model+"gradient 1", "! 300 0")
	below(t, model+"gradient -1", "! 300 0")
}

// doubling are so many lets, each twice the one above.
func doubling(n int) string {
	s := ""
	for i := range n {
		s += fmt.Sprintf("let a%d = a%d + a%d\n", i+1, i, i)
	}
	return s
}

// P18.3: what the calls themselves answer, with number and place.
func TestCallsRefuse(t *testing.T) {
	deep := "model\nin x\nout 1\nend\n"
	power := "model\nin x\nout x, x^1000\nend\n"
	wide := "model\nin x\nout sum(" + strings.Repeat("x, ", 2100) + "x)\nend\n"
	for _, c := range []struct{ script, want string }{
		{deep + "point\neval", "! 109 0"},
		{"model\nin x\nout x, 1 / x\nend\npoint 0\neval", "! 9 1"},
		{"model\nin x\nout x, 1 / x\nend\nrecord\npoint 0\nvalues", "! 9 2"},
		{"model\nin x\nout x, 1 / x\nend\nrecord\npoint 0\njacobian", "! 9 2"},
		{"model\nin x\nout x, 1 / x\nend\nrecord\npoint 0\nweights 1 0\nhessian", "! 9 2"},
		{"model\nin x\nout x, 1 / x\nend\nrecord\npoint 0\nalong 1\nseries 2", "! 9 2"},
		{"model\nin x\nout x, 1 / x\nend\nrecord\npoint 0\nrank", "! 9 2"},
		{"model\nin x\nout x, 1 / x\nend\nrecord\npoint 0\ndet", "! 9 2"},
		{"model\nin x\nout x, 1 / x\nend\nrecord\npoint 0\nsolve 1", "! 9 2"},
		{"model\nin x\nout 1 / x\nend\nrecord\npoint 0\nnewton 3", "0|5 2"},
		{page + "point 3\nvalues", "! 109 0"},
		{page + "point 3\njacobian", "! 109 0"},
		{page + "point 3 4 5\nhessian", "! 109 0"},
		{page + "point 3\nrank", "! 109 0"},
		{page + "point\nseries 1", "! 109 0"},
		{page + "along 3\nseries 1", "! 109 0"},
		{page + "along\nseries 1", "! 109 0"},
		{page + "point 3\nnewton 1", "! 109 0"},
		{page + "weights 1\nhessian", "! 141 0"},
		{page + "weights\nhessian", "! 141 0"},
		{page + "weights 1 2 3\nblend", "! 141 0"},
		{page + "point 3 0\nvalues", "! 9 5"},
		{page + "point 3 0\neval", "! 9 1"},
		{page + "workers 0\njacobian", "! 342 0"},
		{page + "workers 17\nhessian", "! 342 0"},
		{page + "workers -1\ndet", "! 342 0"},
		{page + "order script\njacobian", "! 182 0"},
		{page + "order script 0\nhessian", "! 182 0"},
		{page + "order script 0 0\ncolours", "! 182 0"},
		{page + "order script 0 2\nrank", "! 182 0"},
		{page + "order script 1 0\njacobian", "sweeps 2|0 0 5/2|0 1 9|1 0 1|1 1 0"},
		{page + "series 17", "! 160 0"},
		{page + "series -1", "! 160 0"},
		{page + "newton 33", "! 1 0"},
		{page + "newton -1", "! 1 0"},
		{root + "weights 1\nblend\nblend\nnewton 33", "! 1 0"},
		{"model\nin x\nout x, x\nend\nrecord\npoint 1\nnewton 1", "! 7 0"},
		{"model\nin x\nout x, x\nend\nrecord\npoint 1\ndet", "! 7 0"},
		{page + "solve 1", "! 7 0"},
		{page + "solve 1 2 3", "! 7 0"},
		{page + "solve", "! 7 0"},
		// layer 15's limits, with the output's number
		{"model\nin x\nout x, 1 / (x - x)\nend\nsimplify", "! 9 1"},
		{"model\nin x\nout x, 1 / (x - x)\nend\ntext", "! 9 1"},
		{"model\nin x\nout x, x, x^1000 * x^1000\nend\ndiff x", "! 107 2"},
		{"model\nin x\nout x, 1 / x\nend\nfix x 0", "! 9 1"},
		{power + "flat", "model 1 0 0 2 3"},
		{power + "record\npoint 1024\nvalues", "! 8 1"},
		{power + "record\npoint 1024\njacobian", "! 8 1"},
		{power + "record\npoint 1024\nnewton 1", "! 7 0"},
		// more nodes than a tape may have, than a model may have
		{wide + "record", "! 101 0"},
		{"model\nin x\nlet a0 = x\n" + doubling(17) + "out a17\nend\nflat", "! 101 0"},
		{"model\nin x\nfn f(a) = a + a + a + a + a + a + a + a\nout f(f(f(f(x))))\nend\nflat", "! 86 0"},
		// no text
		{"model\nin x\nout x\nend\nfix x " + strings.Repeat("7", 1001) + "\nshow model", "! 81 0"},
	} {
		below(t, c.script, c.want)
	}
	// no node is large here, but the sum of the outputs is: the place is the number of nodes
	huge := "1" + strings.Repeat("0", 1235)
	sum := "tape\ninputs 2\nin 0\nin 1\nout 0\nout 1\nend\npoint " + huge + " 1/" + huge + "\nweights 1 0\nalong 0 1\n"
	for _, command := range []string{"values", "jacobian", "rank", "det", "solve 1 1"} {
		below(t, sum+command, "! 8 2")
	}
	below(t, sum+"newton 1", huge+" 1/"+huge+"|4 2")
	below(t, sum+"series 0", huge+"|1/"+huge)
	// no number is large, but the system is: eight rows of more than MaxSolve / 8 bits
	heavy := "tape\ninputs 8\n"
	for i := range 8 {
		heavy += fmt.Sprintf("in %d\nconst %s\nmul %d %d\n", i, huge, 3*i, 3*i+1)
	}
	for i := range 8 {
		heavy += fmt.Sprintf("out %d\n", 3*i+2)
	}
	heavy += "end\npoint 1 1 1 1 1 1 1 1\n"
	for _, command := range []string{"rank", "det", "solve 1 1 1 1 1 1 1 1"} {
		below(t, heavy+command, "! 8 0")
	}
	below(t, heavy+"newton 1", "1 1 1 1 1 1 1 1|4 25")
	below(t, heavy+"solve 1", "! 7 0")
	below(t, heavy+"values", strings.TrimSuffix(strings.Repeat(huge+" ", 8), " "))
}

// P18.3: several refusals at once: the first that applies.
func TestOrderOfRefusals(t *testing.T) {
	for _, c := range []struct{ script, want string }{
		// the word, ahead of all
		{"foo 1 x", "! 360 0"},
		// the count, ahead of the arguments
		{"mode x y", "! 1 0"}, {"route x y", "! 1 0"}, {"show x y", "! 1 0"}, {"workers x y", "! 1 0"}, {"series x y", "! 1 0"}, {"newton", "! 1 0"}, {"fix x y z", "! 1 0"}, {"gradient 1/2 1", "! 1 0"}, {"order natural x", "! 1 0"}, {"way x x", "! 1 0"}, {"way a b c d", "! 1 0"},
		// the count, ahead of what there is not
		{"values 1", "! 1 0"}, {"record x", "! 1 0"}, {"diff", "! 1 0"}, {"diff x y", "! 1 0"}, {"det 1", "! 1 0"}, {"show", "! 1 0"},
		// arguments from the left
		{"point x y", "! 1 1"}, {"point 1 y x", "! 1 2"}, {"order foo x", "! 221 1"}, {"order script x y", "! 1 2"}, {"way x y", "! 120 1"}, {"way fold y x", "! 120 2"},
		// the arguments, ahead of what there is not
		{"gradient x", "! 1 1"}, {"series 1/2", "! 1 1"}, {"newton x", "! 1 1"}, {"solve 1 x", "! 1 2"}, {"fix y x", "! 1 2"}, {"show foo", "! 1 1"},
		// what there is not, ahead of names and calls
		{"diff z", "! 361 0"}, {"fix z 1", "! 361 0"}, {"gradient -1", "! 361 0"}, {"series 99", "! 361 0"}, {"newton 99", "! 361 0"}, {"point 1\nworkers 0\njacobian", "! 361 0"},
		// names, ahead of calls: the model is refused by Diff itself, but with a name of its own
		{"model\nin x\nout 1 / (x - x)\nend\ndiff z", "! 300 1"}, {"model\nin x\nout 1 / (x - x)\nend\ndiff x", "! 9 0"}, {"model\nin x\nout 1 / (x - x)\nend\nfix z 1", "! 300 1"}, {"model\nin x\nout 1 / (x - x)\nend\nfix x 1", "! 9 0"},
		// calls: the point ahead of the plan, the plan ahead of poles; the Jacobian's error ahead of the system's
		{page + "point 1\nworkers 0\njacobian", "! 109 0"}, {page + "point 3 0\nworkers 0\njacobian", "! 342 0"}, {page + "point 3 0\norder script\nworkers 0\njacobian", "! 342 0"}, {page + "point 3 0\norder script\njacobian", "! 182 0"}, {page + "point 3 0\nsolve 1", "! 9 5"}, {page + "point 3\nsolve 1", "! 109 0"}, {page + "workers 0\nsolve 1", "! 342 0"},
		// colours: the first call's error, then the second's; no line of the first is told beside it
		{"tape\ninputs 3\nin 0\nin 1\nin 2\nmul 0 1\nout 3\nend\nmode rows\norder script 0\ncolours", "! 182 0"}, {"tape\ninputs 3\nin 0\nin 1\nin 2\nmul 0 1\nout 3\nend\nmode columns\norder script 0\ncolours", "! 182 0"},
	} {
		below(t, c.script, c.want)
	}
}

// P18.2: what is refused changes nothing, and the script goes on.
func TestRefusedChangesNothing(t *testing.T) {
	telling := "show model\nshow tape\ntext\neval\nvalues\njacobian\nhessian\npatterns\ncolours\nseries 3\nrank\ndet\nsolve 1 2\nnewton 2\nrecord\nshow tape\n"
	begin := page + "way fold\nmode rows\nroute acyclic\norder script 1 0\nworkers 2\n"
	want := chunks(run(t, begin+telling))
	want = want[len(want)-strings.Count(telling, "\n"):]
	for _, bad := range []string{
		"foo", "end", "model\nin x\nout x +\nend", "model x\nin x\nout x\nend", "model\nend", "tape\nend", "tape\ninputs 1\nin 0\nout 1\nend", "tape 1\ninputs 1\nin 0\nout 0\nend",
		"way copy x", "way x", "way copy balance copy", "way copy balance fold copy", "mode x", "mode", "mode dense dense", "route x", "route", "route push dense", "order", "order x", "order natural 1", "order script x", "order script 0 1 x", "order script 0 1/2", "workers", "workers x", "workers 1/2", "workers 1 2",
		"point x", "point 1 2 x", "point 1/0", "weights 1 x", "weights 5 6 7 x", "along x 1", "along 0 0 0 0 x",
		"record 1", "tell 1", "flat x", "simplify x", "diff z", "diff", "diff x y", "gradient 2", "gradient x", "gradient", "fix z 1", "fix x", "fix x y", "trim 1", "merge 1", "clean 1", "blend 1", "show x",
		"text 1", "eval 1", "values 1", "jacobian 1", "hessian 1", "patterns 1", "colours 1", "series", "series 99", "rank 1", "det 1", "solve x", "solve 1", "newton 99", "newton x",
	} {
		script := begin + bad + "\n" + telling
		got := chunks(run(t, script))
		refused := got[len(got)-len(want)-1]
		if len(refused.lines) != 1 || !strings.HasPrefix(refused.lines[0], "! ") {
			t.Errorf("%q was not refused: %q", bad, refused.lines)
		}
		if !slices.EqualFunc(got[len(got)-len(want):], want, sameChunk) {
			t.Errorf("%q changes what is told behind it:\n%s", bad, short(run(t, script)))
		}
	}
	// calls that are refused leave model and tape too
	for _, c := range []struct{ ahead, bad, shows, want string }{
		{"model\nin x\nout x, 1 / (x - x)\nend\n", "simplify", "show model", "in x|out x, 1 / (x - x)"},
		{"model\nin x\nout x, 1 / (x - x)\nend\n", "diff x", "show model", "in x|out x, 1 / (x - x)"},
		{"model\nin x\nout x, 1 / x\nend\n", "fix x 0", "show model", "in x|out x, 1 / x"},
		{root + "model\nin x\nout sum(" + strings.Repeat("x, ", 2100) + "x)\nend\n", "record", "show tape", "inputs 1|in 0|pow 0 2|const -2|add 1 2|out 3"},
		{root + "weights 1 2\n", "blend", "show tape", "inputs 1|in 0|pow 0 2|const -2|add 1 2|out 3"},
	} {
		if got := last(t, c.ahead+c.bad); !strings.HasPrefix(got, "! ") {
			t.Errorf("%q: %s", c.bad, got)
		}
		below(t, c.ahead+c.bad+"\n"+c.shows, c.want)
	}
}

func sameChunk(a, b chunk) bool { return a.line == b.line && slices.Equal(a.lines, b.lines) }

// Lists of no numbers, tapes without inputs: empty lines.
func TestNothing(t *testing.T) {
	is(t, bare+"point\nvalues\njacobian\nhessian\npatterns\ncolours\nseries 2\nrank\ndet\nsolve 0\nsolve 1\nsolve\nnewton 1\nroute push\nhessian\n", lines(
		"> tape", "tape 0 1 1", "> weights 1", "> point",
		"> values", "2",
		"> jacobian", "sweeps 0",
		"> hessian", "sweeps 0",
		"> patterns", "pattern 1 0 0", "pattern 0 0 0",
		"> colours", "colours 0", "colours 0",
		"> series 2", "2 0 0",
		"> rank", "",
		"> det", "! 7 0",
		"> solve 0", "",
		"> solve 1", "none",
		"> solve", "! 7 0",
		"> newton 1", "! 7 0",
		"> route push",
		"> hessian", "sweeps 1"))
	// inputs on which nothing hangs: no first column
	constant := "tape\ninputs 2\nin 0\nin 1\nconst 5\nout 2\nout 2\nend\npoint 1 2\nweights 1 1\n"
	is(t, constant+"rank\ndet\nsolve 0 0\nsolve 0 1\npatterns\njacobian\nnewton 3\n", lines(
		"> tape", "tape 2 3 2", "> point 1 2", "> weights 1 1",
		"> rank", "",
		"> det", "0",
		"> solve 0 0", "0 0",
		"> solve 0 1", "none",
		"> patterns", "pattern 2 2 0", "pattern 2 2 0",
		"> jacobian", "sweeps 1",
		"> newton 3", "1 2", "3 0"))
	// a list of none takes the place of one
	below(t, page+"point\nvalues", "! 109 0")
	below(t, page+"weights\nhessian", "! 141 0")
	below(t, page+"along\nseries 1", "! 109 0")
	below(t, "point\nweights\nalong\nway\norder script", "")
}
