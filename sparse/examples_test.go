package sparse_test

import (
	"slices"
	"testing"

	"slope/api"
	"slope/sparse"
)

// wantPattern fails if an answer is not this pattern, or is an error.
func wantPattern(t *testing.T, what string, p api.Pattern, e api.Errno, want api.Pattern) {
	t.Helper()
	if e != api.OK || showPattern(p) != showPattern(want) {
		t.Errorf("%s: %s, error %d, want %s", what, short(showPattern(p)), e, short(showPattern(want)))
	}
}

// wantMatrix fails if an answer is not this matrix, or is an error.
func wantMatrix(t *testing.T, what string, m api.Matrix, e api.Errno, want api.Matrix) {
	t.Helper()
	if got, text := matrixAnswer(m, e).text(), matrixAnswer(want, api.OK).text(); got != text {
		t.Errorf("%s: %s, want %s", what, short(got), short(text))
	}
}

// wantInts fails if an answer is not these numbers, or is an error.
func wantInts(t *testing.T, what string, l []int, e api.Errno, want string) {
	t.Helper()
	if e != api.OK || !slices.Equal(l, ints(want)) {
		t.Errorf("%s: %v, error %d, want %s", what, l, e, want)
	}
}

// wantError fails if an error is another one.
func wantError(t *testing.T, what string, e, want api.Errno) {
	t.Helper()
	if e != want {
		t.Errorf("%s: error %d, want %d", what, e, want)
	}
}

// The chapter's examples, 1.
func TestExampleBuild(t *testing.T) {
	p, e := sparse.Build(2, 3, ints("1 0 1"), ints("2 0 2"))
	wantPattern(t, "Build", p, e, api.Pattern{Rows: 2, Width: 3, Start: ints("0 1 2"), Cols: ints("0 2")})
	p, e = sparse.Build(0, 0, nil, nil)
	wantPattern(t, "Build of nothing", p, e, api.Pattern{Start: ints("0")})
	_, e = sparse.Build(1, 1, ints("0"), ints("1"))
	wantError(t, "Build, column 1 of 1", e, api.ErrArg)
	_, e = sparse.Build(-1, 0, nil, nil)
	wantError(t, "Build, -1 rows", e, api.ErrPattern)
}

// The chapter's examples, 2 and 5.
func TestExampleShapes(t *testing.T) {
	p := pat(3, 3, "0,1 1,2 2,1")
	q, e := sparse.Turn(p)
	wantPattern(t, "Turn", q, e, pat(3, 3, "1,0 1,2 2,1"))
	q, e = sparse.Close(p)
	wantPattern(t, "Close", q, e, pat(3, 3, "0,1 1,0 1,2 2,1"))
	l, e := sparse.Components(p)
	wantInts(t, "Components", l, e, "0 0 0")
	l, e = sparse.Blocks(p)
	wantInts(t, "Blocks", l, e, "1 0 0")
	q, e = sparse.Permute(p, ints("2 0 1"), ints("2 0 1"))
	wantPattern(t, "Permute", q, e, pat(3, 3, "0,2 1,2 2,0"))
}

// The chapter's examples, 3.
func TestExampleProduct(t *testing.T) {
	p, e := sparse.Product(pat(1, 2, "0,0 0,1"), pat(2, 1, "1,0"))
	wantPattern(t, "Product", p, e, pat(1, 1, "0,0"))
	_, e = sparse.Inter()
	wantError(t, "Inter of none", e, api.ErrShape)
	_, e = sparse.Union()
	wantError(t, "Union of none", e, api.ErrShape)
}

// The chapter's examples, 4 and 6.
func TestExampleMatrices(t *testing.T) {
	m, e := sparse.FromEntries(1, 2, ints("0 0 0"), ints("1 0 1"), nums("1/2 3 -1/2"))
	wantMatrix(t, "FromEntries", m, e, mat(1, 2, "0,0=3 0,1=0"))
	d, e := sparse.Dense(m)
	if e != api.OK || len(d) != 1 || row(d[0]) != "(3 0)" {
		t.Errorf("Dense: %v, error %d", d, e)
	}
	s, e := sparse.Sparse(d, 2)
	wantMatrix(t, "Sparse of Dense", s, e, mat(1, 2, "0,0=3"))
	q, all, e := sparse.Pad(m, pat(1, 2, "0,1"))
	wantMatrix(t, "Pad", q, e, mat(1, 2, "0,1=0"))
	if all {
		t.Error("Pad: (0,0) is 3, and is not there")
	}
	q, all, e = sparse.Pad(m, pat(1, 2, "0,0"))
	wantMatrix(t, "Pad", q, e, mat(1, 2, "0,0=3"))
	if !all {
		t.Error("Pad: all but a 0 is there")
	}
}

// P9.9: what is not found is an api.Rat without any limbs; an entry that is 0 is found.
func TestGet(t *testing.T) {
	m := mat(2, 2, "0,1=0 1,0=-2/3")
	for _, c := range []struct {
		r, c  int
		found bool
		want  string
	}{{0, 1, true, "0"}, {1, 0, true, "-2/3"}, {0, 0, false, ""}, {1, 1, false, ""}, {2, 0, false, ""}, {0, 2, false, ""}, {-1, 0, false, ""}, {0, -1, false, ""}} {
		v, found := sparse.Get(m, c.r, c.c)
		if found != c.found || found && show(v) != c.want || !found && (v.Neg || v.Num != nil || v.Den != nil) {
			t.Errorf("Get at %d, %d: %v, %v", c.r, c.c, v, found)
		}
	}
}
