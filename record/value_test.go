package record_test

import (
	"fmt"
	"testing"

	"slope/api"
	"slope/record"
)

// P6.3: the chapter's examples, and some by hand.
func TestValue(t *testing.T) {
	for _, c := range []struct{ text, at, want string }{
		{whole, "3 1/2", "21/4 3"},
		{"in x\nlet u = x / 0\nout x", "3", "3"},
		{"in x\nfn f(a, b) = b\nout f(1 / 0, x)", "5", "5"},
		{"out 7", "", "7"},
		{"out sum(), prod(), sum(3), prod(3), sum(1, 2, 3), prod(2, 3, 4)", "", "0 1 3 3 6 24"},
		{"in x\nout x, x, -x, x^-2, x^0", "-2/3", "-2/3 -2/3 2/3 9/4 1"},
		{"in x\nout x^0, 0^0", "0", "1 1"},
		{"in x, y\nout x - y, x / y, y - x, y / x", "3 -4", "7 -3/4 -7 -4/3"},
		{"in x\nfn f(x) = x * x\nlet u = f(x + 1)\nout u - 1, f(u)", "1", "3 16"},
		{"in x\nlet u = x\nout u, u", "0", "0 0"},
	} {
		wantValue(t, c.text, must(t, c.text), nums(c.at), c.want)
	}
}

// P6.3: poles, and the output in whose working out they come up.
func TestValuePoles(t *testing.T) {
	for _, c := range []struct {
		text, at string
		place    int
	}{
		{"in x\nout 1 / 0, 7", "1", 0},
		{"in x\nout x, 1 / x", "0", 1},
		{"in x\nout x, 1, x^-1", "0", 2},
		{"in x\nout x, 0^-3 * x", "1", 1},
		{"in x\nlet u = 1 / x\nout x, u, u", "0", 1},
		{"in x\nfn f(a, b) = a\nout f(x, 1 / x), f(1 / x, x)", "0", 1},
		{"in x\nout sum(x, x, 1 / x)", "0", 0},
		{"in x\nout 2, prod(x, 0 / 0)", "0", 1},
	} {
		wantNoValue(t, c.text, must(t, c.text), nums(c.at), c.place, api.ErrPole)
	}
}

// bigModel is a model of the inputs x and b whose text is this.
func bigModel(t *testing.T, outs string) api.Model {
	t.Helper()
	return must(t, "in x, b\n"+outs)
}

// P6.3: numbers that layer 2 refuses, and which of two refusals comes first.
func TestValueBig(t *testing.T) {
	t.Parallel()
	at := []api.Rat{num("0"), power2(40000)}
	for _, c := range []struct {
		outs  string
		place int
		e     api.Errno
	}{
		{"out b * b", 0, api.ErrBig},
		{"out x, b, b^2", 2, api.ErrBig},
		{"out b^-2", 0, api.ErrBig},
		{"out 1 / b / b", 0, api.ErrBig},
		{"out x * (b * b)", 0, api.ErrBig},
		{"out (b * b) / x", 0, api.ErrBig},
		{"out (1 / x) * (b * b)", 0, api.ErrPole},
		{"out (b * b) * (1 / x)", 0, api.ErrBig},
		{"out b, 1 / x, b * b", 1, api.ErrPole},
		{"out b, b * b, 1 / x", 1, api.ErrBig},
		{"let u = b * b\nout b, u, u", 1, api.ErrBig},
		// All kids are worked out ahead of the first product.
		{"out prod(b, b, 1 / x)", 0, api.ErrPole},
		{"out prod(b, b, 1 / b)", 0, api.ErrBig},
		{"out sum(b, 1 / b * b, prod(b, b, x))", 0, api.ErrBig},
		{"out prod(2, b, b, 1 / b)", 0, api.ErrBig},
	} {
		wantNoValue(t, c.outs, bigModel(t, c.outs), at, c.place, c.e)
	}
	l, _, e := record.Value(bigModel(t, "out prod(b, 1 / b, b, x + 1), prod(x, b, b)"), at)
	if want := []api.Rat{power2(40000), num("0")}; e != api.OK || showRats(l) != showRats(want) {
		t.Errorf("from the left: %s, error %d", short(showRats(l)), e)
	}
	// A number of MaxLimbs limbs is one still, and one bit more is none.
	top := []api.Rat{num("1"), power2(65535)}
	if l, _, e := record.Value(bigModel(t, "out b + x, b - x, b + b"), top); e != api.ErrBig || len(l) != 0 {
		t.Errorf("b + b: error %d", e)
	}
	if l, _, e := record.Value(bigModel(t, "out b + x, b - x"), top); e != api.OK || len(l) != 2 {
		t.Errorf("b + x: error %d", e)
	}
}

// P6.3: points that are none, and the order of all errors.
func TestValueFaults(t *testing.T) {
	m := must(t, "in x, y\nout x / y")
	for n := range 5 {
		if n != 2 {
			wantNoValue(t, fmt.Sprint(n, " coordinates"), m, make([]api.Rat, n), 0, api.ErrPoint)
		}
	}
	wantNoValue(t, "coordinates for none", must(t, "out 1"), nums("1"), 0, api.ErrPoint)
	for _, wrong := range wrongNumbers() {
		wantNoValue(t, "the first", m, []api.Rat{wrong, num("1")}, 0, api.ErrRat)
		wantNoValue(t, "the second", m, []api.Rat{num("1"), wrong}, 1, api.ErrRat)
		wantNoValue(t, "both", m, []api.Rat{wrong, wrong}, 0, api.ErrRat)
		wantNoValue(t, "ahead of a pole", m, []api.Rat{wrong, num("0")}, 0, api.ErrRat)
		wantNoValue(t, "of no use", must(t, "in x, y\nout x"), []api.Rat{num("0"), wrong}, 1, api.ErrRat)
	}
	// The work is huge, and its first step a pole.
	huge := must(t, doubled("in x\nfn f0(a) = 1 / a\n", "fn fB(a) = fA(a) * fA(a)\n", "out 1 / x, fB(x)", 40))
	wantNoValue(t, "huge, no point", huge, nil, 0, api.ErrPoint)
	wantNoValue(t, "huge, a wrong coordinate", huge, []api.Rat{{}}, 0, api.ErrRat)
	wantNoValue(t, "huge, a pole", huge, nums("0"), 0, api.ErrNodes)
	// With Copy this would be huge; Value shares its lets.
	lets := must(t, doubled("in x\nlet u0 = x\n", "let uB = uA + uA\n", "out uB", 40))
	wantValue(t, "shared lets", lets, nums("3"), fmt.Sprint(3<<40))
}
