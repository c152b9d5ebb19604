package solve_test

import (
	"fmt"
	"math/big"
	"slices"
	"strings"
	"testing"

	"slope/api"
	"slope/solve"
)

// wantFirst fails unless the first columns are these.
func wantFirst(t *testing.T, m string, want ...int) {
	t.Helper()
	if l, e := solve.First(mat(m)); e != api.OK || !slices.Equal(l, want) {
		t.Errorf("First of %s: %v, error %d, want %v", m, l, e, want)
	}
}

// wantDeterminant fails unless that is it.
func wantDeterminant(t *testing.T, m, want string) {
	t.Helper()
	if r, e := solve.Determinant(mat(m)); e != api.OK || show(r) != want {
		t.Errorf("Determinant of %s: %s, error %d, want %s", m, show(r), e, want)
	}
}

// wantSolution fails unless that is it; none: a certificate stands in its place.
func wantSolution(t *testing.T, m, b, want string) {
	t.Helper()
	h := held{a: mat(m), b: nums(b)}
	x, y, e := solve.Solve(h.a, h.b)
	if want == "none" {
		if s := proofFault(h, y); e != api.ErrNone || len(x) != 0 || s != "" {
			t.Errorf("Solve of %s with %s: %s, %s, error %d: %s", m, b, showRow(x), showRow(y), e, s)
		}
		return
	}
	if e != api.OK || showRow(x) != want || len(y) != 0 {
		t.Errorf("Solve of %s with %s: %s, %s, error %d, want %s", m, b, showRow(x), showRow(y), e, want)
	}
}

// wantKernel fails unless these are its vectors.
func wantKernel(t *testing.T, m, want string) {
	t.Helper()
	if l, e := solve.Kernel(mat(m)); e != api.OK || showRows(l) != want {
		t.Errorf("Kernel of %s: %s, error %d, want %s", m, showRows(l), e, want)
	}
}

// wantInverse fails unless that is it; none: the matrix is singular.
func wantInverse(t *testing.T, m, want string) {
	t.Helper()
	l, e := solve.Inverse(mat(m))
	if want == "none" {
		if e != api.ErrSingular || len(l) != 0 {
			t.Errorf("Inverse of %s: %s, error %d", m, showRows(l), e)
		}
		return
	}
	if e != api.OK || showRows(l) != want {
		t.Errorf("Inverse of %s: %s, error %d, want %s", m, showRows(l), e, want)
	}
}

// wantPivots fails unless these are the pivots, and that is the fill.
func wantPivots(t *testing.T, m, want string, fill int) {
	t.Helper()
	l, n, e := solve.Pivots(mat(m))
	var z []string
	for _, p := range l {
		z = append(z, fmt.Sprintf("%d,%d %s", p.Row, p.Col, show(p.Value)))
	}
	if e != api.OK || strings.Join(z, "; ") != want || n != fill {
		t.Errorf("Pivots of %s: %s, fill %d, error %d, want %s, fill %d", m, strings.Join(z, "; "), n, e, want, fill)
	}
}

// P16.1: by hand.
func TestFirstExamples(t *testing.T) {
	wantFirst(t, "2 1,4 2", 0)
	wantFirst(t, "0 1,1 0", 0, 1)
	wantFirst(t, ". 1 2,. 2 4,. . 1", 1, 2)
	wantFirst(t, "1", 0)
	wantFirst(t, ".")
	wantFirst(t, "0")
	wantFirst(t, "0 0 5 10 1", 2)
	wantFirst(t, "1 2 3,4 5 6", 0, 1)
	wantFirst(t, "1 2 3,2 4 7", 0, 2)
	wantFirst(t, "1 2,3 4,5 6", 0, 1)
	wantFirst(t, "1 2 3,4 5 6,7 8 9", 0, 1)
	wantFirst(t, "1/2 1/3 5/6,1/5 1/7 12/35", 0, 1)
	wantFirst(t, "0 . 0,. 0 .")
}

// P16.2: by hand; of no rows 1.
func TestDeterminantExamples(t *testing.T) {
	for _, x := range []struct{ m, want string }{
		{"", "1"}, {"7", "7"}, {"-2/3", "-2/3"}, {".", "0"}, {"0", "0"},
		{"2 1,4 2", "0"}, {"0 1,1 0", "-1"}, {"1 2,3 4", "-2"}, {"1 1 1,1 2 .,1 . 3", "1"},
		{"1/2 1/3,1/4 1/5", "1/60"}, {"1 2 3,4 5 6,7 8 9", "0"}, {"1 2 3,4 5 6,7 8 10", "-3"},
		{". . 1,1 . .,. 1 .", "1"}, {". . 2,. 3 .,5 . .", "-30"}, {"1 2,. .", "0"}, {". 2,. 3", "0"},
		{". 1 . .,1 . . .,. . . 1,. . 1 .", "1"}, {". 1 . .,. . 1 .,. . . 1,1 . . .", "-1"},
	} {
		wantDeterminant(t, x.m, x.want)
	}
}

// P16.3: by hand: solutions that are 0 at every column that is not first, and none.
func TestSolveExamples(t *testing.T) {
	for _, x := range []struct{ m, b, want string }{
		{"2 1,4 2", "1 2", "1/2 0"}, {"2 1,4 2", "1 3", "none"}, {"2 1,4 2", "0 0", "0 0"},
		{"0 1,1 0", "3 5", "5 3"}, {"1 2,3 4", "5 6", "-4 9/2"},
		{". 1 2,. 2 4,. . 1", "5 10 2", "0 1 2"}, {". 1 2,. 2 4,. . 1", "5 11 2", "none"},
		{"1 2 3,2 4 7", "1 3", "-2 0 1"}, {"1 2,3 4,5 6", "1 1 1", "-1 1"}, {"1 2,3 4,5 6", "1 1 2", "none"},
		{"0", "0", "0"}, {"0", "1/3", "none"}, {".", "0", "0"}, {".", "-1", "none"}, {"3", "1/2", "1/6"},
		{"1/2 1/3,1/4 1/5", "1 1", "-8 15"}, {"1 1 1 1", "7", "7 0 0 0"}, {"0 . 2 4", "-3", "0 0 -3/2 0"},
		{"1,2,3", "2 4 6", "2"}, {"1,2,3", "2 4 7", "none"}, {"1,2,3", "0 0 1/7", "none"}, {"0,.,0", "0 0 0", "0"},
	} {
		wantSolution(t, x.m, x.b, x.want)
	}
}

// P16.4: by hand.
func TestKernelExamples(t *testing.T) {
	for _, x := range []struct{ m, want string }{
		{"2 1,4 2", "-1/2 1"}, {". 1 2,. 2 4,. . 1", "1 0 0"}, {"0 1,1 0", ""}, {"0", "1"}, {".", "1"}, {"3", ""},
		{"1 2 3", "-2 1 0, -3 0 1"}, {"0 0 5 10 1", "1 0 0 0 0, 0 1 0 0 0, 0 0 -2 1 0, 0 0 -1/5 0 1"},
		{"1 2 3,2 4 7", "-2 1 0"}, {"1 2,3 4,5 6", ""}, {". .,. .", "1 0, 0 1"}, {"1 2 3,4 5 6,7 8 9", "1 -2 1"},
	} {
		wantKernel(t, x.m, x.want)
	}
}

// P16.5: by hand.
func TestInverseExamples(t *testing.T) {
	for _, x := range []struct{ m, want string }{
		{"", ""}, {"0 1,1 0", "0 1, 1 0"}, {". 2,1 .", "0 1, 1/2 0"}, {"2 1,4 2", "none"}, {"0", "none"}, {".", "none"},
		{"-2/3", "-3/2"}, {"1 2,3 4", "-2 1, 3/2 -1/2"}, {"1/2 1/3,1/4 1/5", "12 -20, -15 30"},
		{"1 2 3,4 5 6,7 8 9", "none"}, {". . 2,. 3 .,5 . .", "0 0 1/5, 0 1/3 0, 1/2 0 0"}, {"1 1 1,1 2 .,1 . 3", "6 -3 -2, -3 2 1, -2 1 1"},
	} {
		wantInverse(t, x.m, x.want)
	}
}

// P16.6: the examples, like products in the order of rows and then of columns, numbers that become 0, and fill.
func TestPivotsExamples(t *testing.T) {
	wantPivots(t, "0 1,1 0", "0,1 1; 1,0 1", 0)
	wantPivots(t, "1 1 1,1 2 .,1 . 3", "1,1 2; 0,0 1/2; 2,2 1", 0)
	wantPivots(t, "1 1 .,1 . 1,. 1 1", "0,0 1; 1,1 -1; 2,2 2", 1)
	wantPivots(t, "", "", 0)
	wantPivots(t, ". 0,. .", "", 0)
	wantPivots(t, "-7/3", "0,0 -7/3", 0)
	// all products alike: the lowest row, in it the lowest column
	wantPivots(t, "1 2,3 4", "0,0 1; 1,1 -2", 0)
	wantPivots(t, "1 2,2 4", "0,0 1", 0)
	wantPivots(t, ". 1 2,. 3 4", "0,1 1; 1,2 -2", 0)
	wantPivots(t, "1 2 3", "0,0 1", 0)
	wantPivots(t, "1,2,3", "0,0 1", 0)
	// a row ahead of a column: (0, 2) and (1, 0) have the product 0
	wantPivots(t, "3 . 5,7 . .", "0,2 5; 1,0 7", 0)
	// an entry that is 0 is none: with it row 0 would have three
	wantPivots(t, "0 5 6,1 2 3,4 . 7", "0,1 5; 1,0 1; 2,2 23/5", 0)
	// two rows become 0 at once
	wantPivots(t, "1 1 1,1 1 1,2 2 2", "0,0 1", 0)
	// what becomes 0 counts no more: behind the first step column 2 has one entry alone, (1, 2)
	wantPivots(t, "1 1 1,1 2 4,1 3 1", "0,0 1; 1,2 3; 2,1 2", 0)
	// fill at each place that was 0, with the fraction that it takes
	wantPivots(t, "2 1 . 1,. 1 1 1,1 . 1 1,1 1 1 .", "0,0 2; 1,1 1; 2,2 3/2; 3,3 -4/3", 2)
}

// P16.6: a place is filled, becomes 0, and is filled again: each time counts.
func TestFillAgain(t *testing.T) {
	m := ". 0 2 -1 -2 1,1 0 1 0 -1 1,. 0 . 1 -1 1,. 1 1 1 -1 -1,2 1 -1 2 . .,0 -1 2 -1 0 2"
	if p := pivotsOf(gridOf(m)); p.again != 1 || len(p.filled) != 2 {
		t.Fatalf("%s: %d places are filled, %d times again", m, len(p.filled), p.again)
	}
	wantPivots(t, m, "1,0 1; 2,4 -1; 0,3 -3; 3,1 1; 4,2 -4/3; 5,5 3/2", 3)
	d := dice(7)
	for met := 0; met < 5; {
		g := d.grid(7, 7, 45, d.little)
		p := pivotsOf(g)
		if p.again == 0 {
			continue
		}
		met++
		if a := wantPlain(t, callOf("Pivots"), held{a: g.matrix()}, g.text()); a.n <= len(p.filled) {
			t.Errorf("%s: fill %d at %d places", g.text(), a.n, len(p.filled))
		}
	}
}

// No rows, no columns.
func TestNothing(t *testing.T) {
	none := func(rows, width int) api.Matrix {
		return gridBy(rows, width, func(_, _ int) *big.Rat { return nil }).matrix()
	}
	for _, n := range []int{0, 1, 3, 64} {
		for _, c := range []struct {
			rows, width int
			kernel      int
		}{{0, n, n}, {n, 0, 0}, {n, n, n}} {
			m := none(c.rows, c.width)
			what := fmt.Sprintf("no entries in %d by %d", c.rows, c.width)
			zero := slices.Repeat(nums("0"), c.rows)
			h := held{a: m, b: zero}
			for _, one := range matrixCalls() {
				wantPlain(t, one, h, what)
			}
			if l, e := solve.Kernel(m); e != api.OK || len(l) != c.kernel {
				t.Errorf("%s: Kernel has %d vectors, error %d", what, len(l), e)
			}
			if x, _, e := solve.Solve(m, zero); e != api.OK || len(x) != c.width {
				t.Errorf("%s: Solve: %d numbers, error %d", what, len(x), e)
			}
			for i := range c.rows {
				b := slices.Clone(zero)
				b[i] = num("-2/7")
				wantPlain(t, callOf("Solve"), held{a: m, b: b}, what)
			}
		}
	}
}
