package series_test

import (
	"fmt"
	"math/big"
	"strings"
	"testing"

	"slope/api"
	"slope/series"
)

// one is Expand's answer for a tape of one input.
func one(t *testing.T, text, at, along string, degree int) ([][]api.Rat, int, api.Errno) {
	t.Helper()
	return series.Expand(must(t, "inputs 1; in 0; "+text), nums(at), nums(along), degree)
}

// P8.2, P8.3: the chapter's examples 1 and 2.
func TestExamples(t *testing.T) {
	x := geometric(t)
	for _, c := range []struct {
		at, along string
		degree    int
		want      string
	}{{"0", "1", 3, "1 1 1 1"}, {"1/2", "1", 2, "2 4 8"}, {"0", "2", 3, "1 2 4 8"}, {"0", "1", 0, "1"}, {"0", "0", 3, "1 0 0 0"}, {"3", "1", 2, "-1/2 1/4 -1/8"}, {"-1/2", "-1/3", 2, "2/3 -4/27 8/243"}, {"0", "1", 16, "1 1 1 1 1 1 1 1 1 1 1 1 1 1 1 1 1"}} {
		l, place, e := series.Expand(x, nums(c.at), nums(c.along), c.degree)
		wantRows(t, fmt.Sprint(c), l, place, e, c.want)
	}
	for _, degree := range []int{0, 1, 2, 16} {
		if l, place, e := series.Expand(x, nums("1"), nums("1"), degree); place != 3 || e != api.ErrPole || len(l) > 0 {
			t.Errorf("at 1: %s, %d, %d", rows(l), place, e)
		}
	}
	l, place, e := one(t, "pow 0 3; out 1", "2", "1", 3)
	wantRows(t, "x^3", l, place, e, "8 12 6 1")
	l, place, e = one(t, "pow 0 3; out 1", "2", "1", 1)
	wantRows(t, "x^3", l, place, e, "8 12")
	l, place, e = one(t, "pow 0 3; out 1", "2", "1", 5)
	wantRows(t, "x^3", l, place, e, "8 12 6 1 0 0")
	if l, place, e := one(t, "pow 0 -1; out 1", "0", "1", 2); place != 1 || e != api.ErrPole || len(l) > 0 {
		t.Errorf("x^-1 at 0: %s, %d, %d", rows(l), place, e)
	}
}

// P8.5: the chapter's example 3.
func TestAlongExample(t *testing.T) {
	x := must(t, "inputs 2; in 0; in 1; mul 0 1; out 2")
	a, b, c, place, e := series.Along(x, nums("2 3"), nums("1 1"))
	if row(a) != "6" || row(b) != "5" || row(c) != "2" || place != 0 || e != api.OK {
		t.Errorf("%s; %s; %s; %d, %d", row(a), row(b), row(c), place, e)
	}
	x = must(t, "inputs 2; in 0; in 1; div 0 1; out 2; out 0; out 2")
	a, b, c, place, e = series.Along(x, nums("6 2"), nums("0 1"))
	if row(a) != "3 6 3" || row(b) != "-3/2 0 -3/2" || row(c) != "3/2 0 3/2" || place != 0 || e != api.OK {
		t.Errorf("%s; %s; %s; %d, %d", row(a), row(b), row(c), place, e)
	}
	a, b, c, place, e = series.Along(x, nums("6 0"), nums("0 1"))
	if len(a)+len(b)+len(c) > 0 || place != 2 || e != api.ErrPole {
		t.Errorf("at a pole: %s; %s; %s; %d, %d", row(a), row(b), row(c), place, e)
	}
}

// P8.3: each row of the table, at a = 2 - 3t and b = 1/2 + t, with a node at both places too.
func TestRules(t *testing.T) {
	for _, c := range []struct{ node, want string }{
		{"add 0 1", "5/2 -2 0 0"}, {"sub 0 1", "3/2 -4 0 0"}, {"sub 1 0", "-3/2 4 0 0"}, {"mul 0 1", "1 1/2 -3 0"}, {"div 0 1", "4 -14 28 -56"}, {"div 1 0", "1/4 7/8 21/16 63/32"}, {"neg 0", "-2 3 0 0"}, {"neg 1", "-1/2 -1 0 0"},
		{"add 1 1", "1 2 0 0"}, {"sub 1 1", "0 0 0 0"}, {"mul 0 0", "4 -12 9 0"}, {"div 0 0", "1 0 0 0"},
		{"pow 0 0", "1 0 0 0"}, {"pow 0 1", "2 -3 0 0"}, {"pow 0 2", "4 -12 9 0"}, {"pow 0 3", "8 -36 54 -27"}, {"pow 0 4", "16 -96 216 -216"}, {"pow 1 5", "1/32 5/16 5/4 5/2"}, {"pow 1 -1", "2 -4 8 -16"}, {"pow 1 -2", "4 -16 48 -128"}, {"pow 0 -1", "1/2 3/4 9/8 27/16"}, {"pow 1 -3", "8 -48 192 -640"},
		{"const -7/3", "-7/3 0 0 0"}, {"const 0", "0 0 0 0"}, {"in 1", "1/2 1 0 0"}, {"in 2", "5 0 0 0"},
	} {
		x := must(t, "inputs 3; in 0; in 1; "+c.node+"; out 2")
		at, along := nums("2 1/2 5"), nums("-3 1 0")
		words := strings.Fields(c.want)
		for degree := range words {
			l, place, e := series.Expand(x, at, along, degree)
			wantRows(t, c.node, l, place, e, strings.Join(words[:degree+1], " "))
		}
	}
}

// P8.2, P8.3: what begins with 0: a = 3t, b = 2 + t.
func TestAtZero(t *testing.T) {
	for _, c := range []struct{ node, want string }{
		{"add 0 0", "0 6 0"}, {"mul 0 0", "0 0 9"}, {"mul 0 1", "0 6 3"}, {"div 0 1", "0 3/2 -3/4"}, {"neg 0", "0 -3 0"},
		{"pow 0 0", "1 0 0"}, {"pow 0 1", "0 3 0"}, {"pow 0 2", "0 0 9"}, {"pow 0 3", "0 0 0"}, {"pow 0 1024", "0 0 0"},
		{"div 1 0", ""}, {"div 0 0", ""}, {"pow 0 -1", ""}, {"pow 0 -2", ""}, {"pow 0 -1024", ""},
	} {
		x := must(t, "inputs 2; in 0; in 1; "+c.node+"; out 2")
		l, place, e := series.Expand(x, nums("0 2"), nums("3 1"), 2)
		if c.want != "" {
			wantRows(t, c.node, l, place, e, c.want)
		} else if place != 2 || e != api.ErrPole || len(l) > 0 {
			t.Errorf("%s: %s, %d, %d", c.node, rows(l), place, e)
		}
	}
	// What is 0 to begin with, but not all the way, and what is 0 throughout.
	for _, c := range []struct{ nodes, along string }{{"sub 0 1; pow 2 0", "1 1"}, {"sub 0 1; pow 2 0", "1 2"}, {"const 0; pow 2 0", "1 1"}} {
		x := must(t, "inputs 2; in 0; in 1; "+c.nodes+"; out 3")
		l, place, e := series.Expand(x, nums("4/3 4/3"), nums(c.along), 3)
		wantRows(t, c.nodes, l, place, e, "1 0 0 0")
		x.Ops[3].N = -1
		if l, place, e = series.Expand(x, nums("4/3 4/3"), nums(c.along), 3); place != 3 || e != api.ErrPole || len(l) > 0 {
			t.Errorf("%s: %s, %d, %d", c.nodes, rows(l), place, e)
		}
	}
}

// binomials are n * (n - 1) * .. / k!, n of either sign, k from 0 to a degree.
func binomials(n, degree int) []api.Rat {
	c := big.NewRat(1, 1)
	var l []api.Rat
	for k := range degree + 1 {
		l = append(l, ratOf(c))
		c = new(big.Rat).Mul(c, big.NewRat(int64(n-k), int64(k+1)))
	}
	return l
}

// P8.3: the greatest powers and all of the bits' shapes: (1 + t)^n has the binomials.
func TestPowers(t *testing.T) {
	for _, n := range []int{-1024, -1023, -513, -512, -100, -17, -16, -3, -2, -1, 0, 1, 2, 3, 4, 5, 6, 7, 8, 15, 16, 17, 63, 64, 65, 100, 341, 511, 512, 513, 682, 1023, 1024} {
		x := must(t, fmt.Sprint("inputs 1; in 0; pow 0 ", n, "; out 1"))
		answered := 0
		for degree := range 17 {
			l, place, e := series.Expand(x, nums("1"), nums("1"), degree)
			if f := lookFault(x, nums("1"), nums("1"), degree); f.e != api.OK {
				if len(l) > 0 || place != 1 || e != api.ErrLarge || f.e != e {
					t.Errorf("power %d, degree %d: %d, %d", n, degree, place, e)
				}
				continue
			}
			answered++
			if place != 0 || e != api.OK || len(l) != 1 || row(l[0]) != row(binomials(n, degree)) {
				t.Errorf("power %d, degree %d: %s, %d, %d", n, degree, short(rows(l)), place, e)
			}
		}
		if answered < 7 {
			t.Errorf("power %d: answered at %d degrees", n, answered)
		}
	}
}

// P8.2: outputs that stand twice, that are inputs or constants; inputs at two nodes and at none.
func TestOutputs(t *testing.T) {
	x := must(t, "inputs 3; in 2; in 0; in 2; const 2/3; mul 0 2; add 4 1; out 4; out 5; out 4; out 0; out 3; out 2; out 5; out 3")
	l, place, e := series.Expand(x, nums("1 7 3"), nums("1/2 7 -1"), 2)
	wantRows(t, "outputs", l, place, e, "9 -6 1", "10 -11/2 1", "9 -6 1", "3 -1 0", "2/3 0 0", "3 -1 0", "10 -11/2 1", "2/3 0 0")
	l, place, e = series.Expand(x, nums("1 7 3"), nums("0 7 0"), 2)
	wantRows(t, "a direction that no live node moves along", l, place, e, "9 0 0", "10 0 0", "9 0 0", "3 0 0", "2/3 0 0", "3 0 0", "10 0 0", "2/3 0 0")
}

// P8.2: a tape without inputs has a direction of no numbers.
func TestNoInputs(t *testing.T) {
	x := must(t, "inputs 0; const -3/2; const 2; div 0 1; pow 2 -3; out 3; out 0")
	for _, v := range [][]api.Rat{nil, {}} {
		l, place, e := series.Expand(x, v, v, 3)
		wantRows(t, "no inputs", l, place, e, "-64/27 0 0 0", "-3/2 0 0 0")
		a, b, c, place, e := series.Along(x, v, v)
		if row(a) != row(nums("-64/27 -3/2")) || row(b) != "0 0" || row(c) != "0 0" || place != 0 || e != api.OK {
			t.Errorf("Along: %s; %s; %s; %d, %d", row(a), row(b), row(c), place, e)
		}
	}
	if _, place, e := series.Expand(x, nil, nums("1"), 3); place != 0 || e != api.ErrPoint {
		t.Errorf("a direction: %d, %d", place, e)
	}
	if _, place, e := series.Expand(must(t, "inputs 0; const 0; pow 0 -1; out 1"), nil, nil, 0); place != 1 || e != api.ErrPole {
		t.Errorf("a pole: %d, %d", place, e)
	}
}

// P8.2: the least pole that is live; poles that are not live are none.
func TestPoles(t *testing.T) {
	x := must(t, "inputs 2; in 0; in 1; div 0 1; sub 1 1; pow 3 -1; div 2 3; mul 0 1; out 6")
	at, along := nums("5 0"), nums("1 1")
	l, place, e := series.Expand(x, at, along, 2)
	wantRows(t, "poles that are not live", l, place, e, "0 5 1")
	for _, c := range []struct {
		outs  []int
		place int
	}{{[]int{6, 2}, 2}, {[]int{4}, 4}, {[]int{5}, 2}, {[]int{4, 5}, 2}, {[]int{5, 4, 6}, 2}, {[]int{6, 4}, 4}} {
		x.Outs = c.outs
		if l, place, e := series.Expand(x, at, along, 2); place != c.place || e != api.ErrPole || len(l) > 0 {
			t.Errorf("outputs %v: %s, %d, %d, want %d", c.outs, rows(l), place, e, c.place)
		}
	}
	// A coefficient above that is not 0 is no help, and 0 times a pole is one.
	if _, place, e := one(t, "const 0; div 0 1; mul 1 2; out 3", "1", "1", 1); place != 2 || e != api.ErrPole {
		t.Errorf("0 times a pole: %d, %d", place, e)
	}
}
