package shell_test

import (
	"strings"
	"testing"
)

const example = "model\nin x, y\nout x * y, x + y\nend\nrecord\npoint 3 1/2\nvalues\njacobian\n"

const exampleTranscript = `> model
model 2 0 0 2 6
> record
tape 2 4 2
> point 3 1/2
> values
3/2 7/2
> jacobian
sweeps 2
0 0 1/2
0 1 3
1 0 1
1 1 1
`

// The chapter's examples.
func TestExamples(t *testing.T) {
	is(t, example, exampleTranscript)
	is(t, "values\nfoo\npoint 1 x\nvalues 1\n", "> values\n! 361 0\n> foo\n! 360 0\n> point 1 x\n! 1 2\n> values 1\n! 1 0\n")
	is(t, "model\nin x\nout x +\nend\n", "> model\n! 82 12\n")
	is(t, "model\nin x\nout x +\nend\nshow model\nrecord\ntext", "> model\n! 82 12\n> show model\n! 361 0\n> record\n! 361 0\n> text\n! 361 0\n")
	is(t, "", "")
	is(t, example+"series 1\ndiff x\ntext\n", exampleTranscript+"> series 1\n! 109 0\n> diff x\nmodel 2 0 0 2 2\n> text\n1*y\n1\n") // README.md's
	is(t, example+"solve 1 2\ndet\ndiff x\ntext\n", exampleTranscript+"> solve 1 2\n2 0\n> det\n-5/2\n> diff x\nmodel 2 0 0 2 2\n> text\n1*y\n1\n")
}

// P18.2: each command of the chapter's table, with the lines that it puts out; those of DOC.md's model are reckoned by hand.
func TestCommands(t *testing.T) {
	met := map[string]bool{}
	for _, c := range []struct{ ahead, command, want string }{
		{"", pageModel, "model 2 0 1 2 10"},
		{"", "model\nin x\nfn f(a, b) = a * b\nfn g(a) = f(a, a)\nlet u = g(x)\nout u, x, 1, 2\nend\n", "model 1 2 1 4 12"},
		{"", "tape\ninputs 2\nin 0\nin 1\nmul 0 1\nout 2\nout 0\nend", "tape 2 3 2"},
		{"", "way", ""},
		{"", "way fold copy balance", ""},
		{"", "mode rows", ""},
		{"", "route push", ""},
		{"", "order largest", ""},
		{"", "order script 2 0 1", ""},
		{"", "workers 16", ""},
		{"", "point 1 -2 1/3 0.25 1e3", ""},
		{"", "weights 1 2", ""},
		{"", "along 1 2", ""},
		{pageModel, "record", "tape 2 6 2"},
		{pageModel + "way copy\n", "record", "tape 2 7 2"},
		{page, "tell", "model 2 0 4 2 13"},
		{page, "flat", "model 2 0 0 2 11"},
		{page, "simplify", "model 2 0 0 2 8"},
		{page, "diff x", "model 2 0 0 2 8"},
		{page, "gradient 0", "model 2 0 0 2 12"},
		{page, "fix x 3", "model 2 0 0 2 7"},
		{doubled, "trim", "tape 2 5 2"},
		{doubled, "merge", "tape 2 6 2"},
		{doubled, "clean", "tape 2 4 2"},
		{page, "blend", "tape 2 11 1"},
		{page, "show model", "in x, y|let u = x * y|out u^2 + x, u / y"},
		{page, "show tape", "inputs 2|in 0|in 1|mul 0 1|pow 2 2|add 3 0|div 2 1|out 4|out 5"},
		{page, "text", "1*x+1*x^2*y^2|1*x"},
		{page, "eval", "21/4 3"},
		{page, "values", "21/4 3"},
		{page, "jacobian", "sweeps 2|0 0 5/2|0 1 9|1 0 1|1 1 0"},
		{page, "hessian", "sweeps 2|0 0 1/2|0 1 6|1 0 6|1 1 18"},
		{page + "weights 0 1\n", "hessian", "sweeps 2|0 0 0|0 1 0|1 0 0|1 1 0"},
		{page, "patterns", "pattern 2 2 4|0 0|0 1|1 0|1 1|pattern 2 2 4|0 0|0 1|1 0|1 1"},
		{example, "patterns", "pattern 2 2 4|0 0|0 1|1 0|1 1|pattern 2 2 2|0 1|1 0"},
		{page, "colours", "colours 2 0 1|colours 2 0 1"},
		{page, "series 2", "21/4 5/2 1/4|3 1 0"},
		{page, "series 0", "21/4|3"},
		{page, "rank", "0 1"},
		{flat, "rank", "0"},
		{page, "det", "-9"},
		{flat, "det", "0"},
		{page, "solve 1 2", "2 -4/9"},
		{flat, "solve 1 2", "1 0"},
		{flat, "solve 1 3", "none"},
		{root, "newton 3", "1|3/2|17/12|577/408|2 0"},
		{root, "newton 0", "1|2 0"},
		{root + "point 0\n", "newton 5", "0|3 0"},
	} {
		below(t, c.ahead+c.command, c.want)
		below(t, c.ahead+c.command+"\n", c.want)
		met[strings.Fields(c.command)[0]] = true
	}
	for _, word := range commands() {
		if !met[word] {
			t.Errorf("%s was not tested", word)
		}
	}
}

// What the commands that change the model or the tape leave behind.
func TestWhatIsLeft(t *testing.T) {
	for _, c := range []struct{ script, want string }{
		{page + "tell\nshow model", "in x0, x1|let n2 = x0 * x1|let n3 = n2^2|let n4 = n3 + x0|let n5 = n2 / x1|out n4, n5"},
		{page + "flat\nshow model", "in x, y|out (x * y)^2 + x, x * y / y"},
		{page + "simplify\nshow model", "in x, y|out sum(x, prod(x^2, y^2)), x"},
		{page + "diff x\nshow model", "in x, y|out sum(prod(x, y^2, 2), 1), 1"},
		{page + "diff y\nshow model", "in x, y|out prod(x^2, y, 2), 0"},
		{page + "gradient 0\nshow model", "in x, y|out sum(prod(x, y^2, 2), 1), prod(x^2, y, 2)"},
		{page + "gradient 1\nshow model", "in x, y|out 1, 0"},
		{page + "fix x 3\nshow model", "in x, y|out sum(prod(y^2, 9), 3), 3"},
		{page + "fix y -1/2\nshow model", "in x, y|out sum(x, prod(x^2, [1/4])), x"},
		{doubled + "trim\nshow tape", "inputs 2|in 0|in 1|mul 0 1|mul 1 0|add 2 3|out 4|out 4"},
		{doubled + "merge\nshow tape", "inputs 2|in 0|in 1|mul 0 1|add 2 2|pow 0 -2|const 3/2|out 3|out 3"},
		{doubled + "clean\nshow tape", "inputs 2|in 0|in 1|mul 0 1|add 2 2|out 3|out 3"},
		{doubled + "weights 2 0\nblend\nshow tape", "inputs 2|in 0|in 1|mul 0 1|mul 1 0|add 2 3|pow 0 -2|const 3/2|const 2|mul 7 4|const 0|mul 9 4|add 8 10|out 11"},
		// a model and a tape are two things: none of them goes when the other comes
		{pageModel + root + "show model", "in x, y|let u = x * y|out u^2 + x, u / y"},
		{root + pageModel + "show tape", "inputs 1|in 0|pow 0 2|const -2|add 1 2|out 3"},
		{page + "diff x\nvalues", "21/4 3"},
		{page + "clean\neval", "21/4 3"},
		// the last one counts
		{pageModel + "model\nin z\nout z\nend\nshow model", "in z|out z"},
		{root + doubled + "clean\nshow tape", "inputs 2|in 0|in 1|mul 0 1|add 2 2|out 3|out 3"},
	} {
		below(t, c.script, c.want)
	}
}

// The ways, each by itself and all at once; the last command way has just its words.
func TestWays(t *testing.T) {
	model := "model\nin a, b, c, d\nlet u = 2 * 3\nout sum(a, b, c, d) * u, u + a\nend\n"
	plain := "inputs 4|in 0|in 1|in 2|in 3|add 0 1|add 4 2|add 5 3|const 2|const 3|mul 7 8|mul 6 9|add 9 0|out 10|out 11"
	folded := "inputs 4|in 0|in 1|in 2|in 3|add 0 1|add 4 2|add 5 3|const 6|mul 6 7|const 6|add 9 0|out 8|out 10"
	for _, c := range []struct{ way, want string }{
		{"", plain},
		{"way\n", plain},
		{"way copy\n", "inputs 4|in 0|in 1|in 2|in 3|add 0 1|add 4 2|add 5 3|const 2|const 3|mul 7 8|mul 6 9|const 2|const 3|mul 11 12|add 13 0|out 10|out 14"},
		{"way balance\n", "inputs 4|in 0|in 1|in 2|in 3|add 0 1|add 2 3|add 4 5|const 2|const 3|mul 7 8|mul 6 9|add 9 0|out 10|out 11"},
		{"way fold\n", folded},
		{"way copy fold\n", folded},
		{"way fold copy\n", folded},
		{"way balance fold copy\n", "inputs 4|in 0|in 1|in 2|in 3|add 0 1|add 2 3|add 4 5|const 6|mul 6 7|const 6|add 9 0|out 8|out 10"},
		{"way copy balance\nway fold\n", folded},
		{"way copy balance fold\nway\n", plain},
	} {
		below(t, model+c.way+"record\nshow tape", c.want)
		below(t, c.way+model+"record\nshow tape", c.want)
	}
}

// Modes, routes, orders: how many sweeps they take, and their colours.
func TestPlans(t *testing.T) {
	for _, c := range []struct{ ahead, command, want string }{
		{squares, "jacobian", "sweeps 1"},
		{squares + "mode rows\n", "jacobian", "sweeps 1"},
		{squares + "mode dense\n", "jacobian", "sweeps 10"},
		{squares + "mode dense\nmode columns\n", "jacobian", "sweeps 1"},
		{squares, "hessian", "sweeps 1"},
		{squares + "route acyclic\n", "hessian", "sweeps 1"},
		{squares + "route dense\n", "hessian", "sweeps 10"},
		{squares + "route push\n", "hessian", "sweeps 1"},
		{squares + "route dense\nroute star\n", "hessian", "sweeps 1"},
		{page + "route push\n", "hessian", "sweeps 1"},
		{page + "mode dense\nroute dense\n", "jacobian", "sweeps 2"},
	} {
		if got, _, _ := strings.Cut(last(t, c.ahead+c.command), "|"); got != c.want {
			t.Errorf("%q, %s: %s, want %s", c.ahead, c.command, got, c.want)
		}
	}
	// x*y, y*z: the middle column meets both others; the Hessian's graph is the path x - y - z
	path := "tape\ninputs 3\nin 0\nin 1\nin 2\nmul 0 1\nmul 1 2\nout 3\nout 4\nend\n"
	for _, c := range []struct{ plan, want string }{
		{"", "colours 2 0 1 0|colours 2 0 1 0"},
		{"order natural\n", "colours 2 0 1 0|colours 2 0 1 0"},
		{"order largest\n", "colours 2 1 0 1|colours 2 1 0 1"},
		{"order incidence\n", "colours 2 1 0 1|colours 2 1 0 1"},
		{"order smallest\n", "colours 2 0 1 0|colours 2 0 1 0"},
		{"order script 1 2 0\n", "colours 2 1 0 1|colours 2 1 0 1"},
		{"order script 0 2 1\n", "colours 2 0 1 0|colours 2 0 1 0"},
		{"order script 1 2 0\norder natural\n", "colours 2 0 1 0|colours 2 0 1 0"},
		{"mode rows\n", "colours 2 0 1|colours 2 0 1 0"},
		{"mode dense\n", "colours 3 0 1 2|colours 2 0 1 0"},
		{"route dense\n", "colours 2 0 1 0|colours 3 0 1 2"},
		{"route push\n", "colours 2 0 1 0|colours 0"},
		{"route acyclic\n", "colours 2 0 1 0|colours 2 0 1 0"},
		{"mode rows\nroute push\norder script 1 0\n", "colours 2 1 0|colours 0"},
		{"workers 0\n", "colours 2 0 1 0|colours 2 0 1 0"}, // colours don't look at the workers
	} {
		below(t, path+c.plan+"colours", c.want)
	}
	// products of neighbours on the path 0 - 1 - 2 - 5 - 4 - 3: each order has colours of its own
	walk := "tape\ninputs 6\nin 0\nin 1\nin 2\nin 3\nin 4\nin 5\nmul 0 1\nmul 1 2\nmul 2 5\nmul 3 4\nmul 4 5\nout 6\nout 7\nout 8\nout 9\nout 10\nend\n"
	for order, want := range map[string]string{
		"natural":            "3 0 1 0 0 1 2",
		"largest":            "3 1 0 1 1 0 2", // 1, 2, 4, 5, 0, 3
		"smallest":           "2 0 1 0 1 0 1", // 0, 1, 2, 5, 4, 3
		"incidence":          "2 1 0 1 0 1 0", // 1, 2, 5, 4, 0, 3
		"script 0 5 2 1 3 4": "3 0 2 1 0 1 0",
	} {
		below(t, walk+"route push\norder "+order+"\ncolours", "colours "+want+"|colours 0")
	}
	// the smallest order goes along the path: four in a row may have two colours, but not as a star
	below(t, walk+"order smallest\ncolours", "colours 2 0 1 0 1 0 1|colours 3 0 1 0 1 0 2")
	below(t, walk+"order smallest\nroute acyclic\ncolours", "colours 2 0 1 0 1 0 1|colours 2 0 1 0 1 0 1")
}

// Numbers among the arguments are what rational.Parse reads, and whole ones may be written in any way.
func TestNumbers(t *testing.T) {
	identity := "tape\ninputs 3\nin 0\nin 1\nin 2\nout 0\nout 1\nout 2\nend\n"
	below(t, identity+"point -012.50e1 3/6 -0\nvalues", "-125 1/2 0")
	below(t, identity+"point 1E-3 0.10 7\nvalues", "1/1000 1/10 7")
	below(t, identity+"point 1 2 3\nalong 4 5 6\nseries 1", "1 4|2 5|3 6")
	for _, two := range []string{"2", "4/2", "2.0", "0.2e1", "02", "20e-1"} {
		below(t, root+"newton "+two, "1|3/2|17/12|2 0")
		below(t, root+"along 1\nseries "+two, "-1 2 1")
		below(t, "model\nin x\nout 1, 2, x^2\nend\ngradient "+two+"\nshow model", "in x|out prod(x, 2)")
		below(t, squares+"workers "+two+"\nmode dense\njacobian", last(t, squares+"mode dense\njacobian"))
	}
	below(t, identity+"order script 4/2 0.0 1e0\ncolours", "colours 1 0 0 0|colours 1 0 0 0")
	// these are whole ones too: the calls refuse them
	for _, odd := range []string{"-1", "33", "9223372036854775807", "-9223372036854775808"} {
		below(t, root+"newton "+odd, "! 1 0")
		below(t, root+"along 1\nseries "+odd, "! 160 0")
		below(t, pageModel+"gradient "+odd, "! 300 0")
		below(t, root+"workers "+odd, "")
		below(t, root+"workers "+odd+"\njacobian", "! 342 0")
		below(t, root+"order script "+odd, "")
		below(t, root+"order script "+odd+"\njacobian", "! 182 0")
	}
}
