package shell_test

import (
	"fmt"
	"strings"
	"testing"

	"slope/api"
)

// The largest tapes and models that a script can have, held against the plain shell; and one more.
func TestLargest(t *testing.T) {
	t.Parallel()
	// MaxNodes nodes
	nodes := "tape\ninputs 1\nin 0\n" + strings.Repeat("neg 0\n", api.MaxNodes-2)
	below(t, nodes+"neg 0\nout 2047\nend", "tape 1 2048 1")
	below(t, nodes+"neg 0\nneg 0\nout 2048\nend", "! 101 0")
	below(t, nodes+"neg 0\nout 2047\nend\nclean", "tape 1 2 1")
	below(t, nodes+"neg 0\nout 2047\nend\nweights 3\nblend", "! 101 0")
	below(t, nodes+"neg 0\nout 2047\nend\npoint 5\nvalues", "-5")
	// MaxInputs inputs, MaxOutputs outputs: neighbours multiplied
	var names, outs, point []string
	for i := range api.MaxInputs {
		names = append(names, fmt.Sprintf("x%d", i))
		outs = append(outs, fmt.Sprintf("x%d * x%d + %d", i, (i+1)%api.MaxInputs, i))
		point = append(point, fmt.Sprintf("%d/%d", i+1, 64-i))
	}
	ring := "model\nin " + strings.Join(names, ", ") + "\nout " + strings.Join(outs, ", ") + "\nend\nrecord\npoint " + strings.Join(point, " ") + "\nweights " + strings.Join(point, " ") + "\nalong " + strings.Join(point, " ") + "\n"
	s := asPlain(t, ring+"values\njacobian\nmode rows\nworkers 5\njacobian\nhessian\nroute push\nhessian\npatterns\ncolours\nseries 3\nrank\ntext\ngradient 63\ntext\n")
	if !strings.Contains(s, "> values\n1/2016 ") || !strings.Contains(s, "model 64 0 0 64 320\n") || !strings.Contains(s, "tape 64 256 64\n") || !strings.Contains(s, "pattern 64 64 128\n") {
		t.Errorf("%s", short(s))
	}
	below(t, strings.Replace(ring, "in x0", "in y, x0", 1)+"text", "! 361 0")
	// a model's text of nearly MaxText bytes, and a transcript that is far longer
	long := "model\nin x\nout x" + strings.Repeat(" + 1000000000000", 2000) + "\nend\n"
	tail := strings.Repeat("show model\n", api.MaxLines-1)
	s = asPlain(t, long+tail)
	if want := len("> model\nmodel 1 0 0 1 4001\n") + (api.MaxLines-1)*(len("> show model\n")+len(long)-len("model\nend\n")); len(s) != want || len(s) < 100*api.MaxText {
		t.Errorf("%d bytes, want %d", len(s), want)
	}
	// a text that ends the script without its newline has one more byte than stands there
	begin, middle := "model\nin x\nout x", strings.Repeat(" ", api.MaxText-len("model\nin x\nout x"))
	below(t, begin+middle, "model 1 0 0 1 1")
	// long numbers, long names, long walks
	digits := strings.Repeat("7", 15000)
	below(t, "tape\ninputs 1\nin 0\nout 0\nend\npoint "+digits+"\nalong 1\nvalues", "! 8 0")
	below(t, "model\nin x\nout x\nend\npoint "+digits+"\neval", digits)
	below(t, "model\nin x\nout x\nend\nfix x "+digits+"\ntext", digits)
	name := strings.Repeat("n", api.MaxName)
	below(t, "model\nin "+name+"\nout "+name+"^2\nend\ndiff "+name+"\ntext", "2*"+name)
	asPlain(t, root+"newton 32\nnewton 10\n")
	asPlain(t, squares+"newton 5\nalong 1 1 1 1 1 1 1 1 1 1\nseries 16\n")
}

// Models that grow from command to command, held against the plain shell.
func TestGrowing(t *testing.T) {
	t.Parallel()
	model := "model\nin x, y\nfn f(a, b) = (a^2 + b) / (a - b)\nlet u = f(x, y)\nout f(u, x), u * y\nend\n"
	asPlain(t, model+"point 3 5\n"+strings.Repeat("diff x\nrecord\nclean\nvalues\neval\ntext\ntell\neval\nflat\neval\n", 3))
	asPlain(t, model+"point 3 5\nweights 2 3\n"+strings.Repeat("record\nblend\nshow tape\nweights 1\ntell\nsimplify\nshow model\neval\n", 3))
	asPlain(t, model+"record\nweights 1 1\nblend\nweights 1\n"+strings.Repeat("blend\n", 700)+"trim\nmerge\nclean\nshow tape\n")
	asPlain(t, "model\nin x\nout x + 1\nend\n"+strings.Repeat("record\ntell\nflat\nfix x0 3\nshow model\nfix x 2\nshow model\n", 20))
}
