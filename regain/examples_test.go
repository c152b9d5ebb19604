package regain_test

import (
	"fmt"
	"strings"
	"testing"

	"slope/api"
	"slope/regain"
)

// mat reads a matrix: rows that commas stand between, a point where there is no place.
func mat(s string) api.Matrix {
	m := api.Matrix{P: api.Pattern{Start: []int{0}}}
	if s == "" {
		return m
	}
	for _, line := range strings.Split(s, ",") {
		words := strings.Fields(line)
		m.P.Rows, m.P.Width = m.P.Rows+1, len(words)
		for c, word := range words {
			if word != "." {
				m.P.Cols, m.Vals = append(m.P.Cols, c), append(m.Vals, num(word))
			}
		}
		m.P.Start = append(m.P.Start, len(m.P.Cols))
	}
	return m
}

// band and arrow are the chapter's.
func band() api.Matrix  { return mat("1 2 .,. 3 4,. . 5") }
func arrow() api.Matrix { return mat("1 2 3,2 4 .,3 . 5") }

// wantRows fails unless rows are as told.
func wantRows(t *testing.T, what string, l [][]api.Rat, e api.Errno, want string) {
	t.Helper()
	if e != api.OK || showRows(l) != want {
		t.Errorf("%s: %s, error %d, want %s", what, short(showRows(l)), e, short(want))
	}
}

// wantMatrix fails unless a matrix is that one.
func wantMatrix(t *testing.T, what string, m api.Matrix, e api.Errno, want api.Matrix) {
	t.Helper()
	if e != api.OK || !sameMatrix(m, want) {
		t.Errorf("%s: %s, error %d, want %s", what, short(answer{m: m}.text()), e, short(answer{m: want}.text()))
	}
}

// wantErrors fails unless the named calls answer this error and nothing beside it.
func wantErrors(t *testing.T, what string, h held, e api.Errno, names ...string) {
	t.Helper()
	for _, name := range names {
		if a := callOf(name).do(h); a.e != e || !a.isNothing() {
			t.Errorf("%s: %s of %s: %s, want error %d", what, name, short(h.text()), short(a.text()), e)
		}
	}
}

// P13.1: example 1, and colours that are nobody's.
func TestSeedExamples(t *testing.T) {
	for _, x := range []struct{ colours, want string }{
		{"0 1 0", "1 0, 0 1, 1 0"},
		{"0", "1"},
		{"2", "0 0 1"},
		{"1 1", "0 1, 0 1"},
		{"3 0", "0 0 0 1, 1 0 0 0"},
	} {
		l, e := regain.Seed(ints(x.colours))
		wantRows(t, x.colours, l, e, x.want)
	}
	l, e := regain.Seed(nil)
	wantRows(t, "no colours", l, e, "")
	l, e = regain.Seed([]int{127})
	wantRows(t, "the greatest", l, e, strings.Repeat("0 ", 127)+"1")
	l, e = regain.Seed(make([]int, 128))
	wantRows(t, "the most", l, e, strings.Repeat("1, ", 127)+"1")
}

// P13.2: example 1, and others by hand.
func TestCompressExamples(t *testing.T) {
	for _, x := range []struct{ m, colours, sums, byRows string }{
		{"1 2 .,. 3 4,. . 5", "0 1 0", "1 2, 4 3, 5 0", "1 2 5, 0 3 4"},
		{"1 2 .,. 3 4,. . 5", "0 0 0", "3, 7, 5", "1 5 9"},
		{"1 2 .,. 3 4,. . 5", "2 1 0", "0 2 1, 4 3 0, 5 0 0", "0 0 5, 0 3 4, 1 2 0"},
		{"1 2 .,. 3 4,. . 5", "3 1 1", "0 2 0 1, 0 7 0 0, 0 5 0 0", "0 0 0, 0 3 9, 0 0 0, 1 2 0"},
		{"1 2 3,2 4 .,3 . 5", "0 1 1", "1 5, 2 4, 3 5", "1 2 3, 5 4 5"},
		{"1/2 -1/2,1/3 1/6", "0 0", "0, 1/2", "5/6 -1/3"},
		{"0", "0", "0", "0"},
		{".", "0", "0", "0"},
		{". .,. .", "0 1", "0 0, 0 0", "0 0, 0 0"},
	} {
		l, e := regain.Compress(mat(x.m), ints(x.colours))
		wantRows(t, x.m+" by columns", l, e, x.sums)
		l, e = regain.CompressRows(mat(x.m), ints(x.colours))
		wantRows(t, x.m+" by rows", l, e, x.byRows)
	}
	// More rows than columns, and the other way round.
	wide := mat("1 2 3 4,5 . 6 .")
	l, e := regain.Compress(wide, ints("0 1 1 0"))
	wantRows(t, "four columns", l, e, "5 5, 5 6")
	l, e = regain.CompressRows(wide, ints("1 1"))
	wantRows(t, "two rows", l, e, "0 0 0 0, 6 2 9 4")
	tall := mat("1,.,2")
	l, e = regain.Compress(tall, ints("1"))
	wantRows(t, "one column", l, e, "0 1, 0 0, 0 2")
	l, e = regain.CompressRows(tall, ints("0 2 2"))
	wantRows(t, "three rows", l, e, "1, 0, 2")
}

// P13.3 to P13.6: the examples, and others by hand.
func TestRegainExamples(t *testing.T) {
	for _, x := range []struct {
		name, m, colours, sums string
		e                      api.Errno
	}{
		{"Columns", "1 2 .,. 3 4,. . 5", "0 1 0", "1 2,4 3,5 0", api.OK},
		{"Columns", "1 2 .,. 3 4,. . 5", "0 1 0", "1 2,4 3,5 1", api.ErrSum},
		{"Columns", "1 2 .,. 3 4,. . 5", "0 0 1", "1 2,4 3,5 0", api.ErrColouring},
		{"Columns", "1 2 .,. 3 4,. . 5", "0 1", "1 2,4 3,5 0", api.ErrColours},
		{"Columns", "1 2 .,. 3 4,. . 5", "0 1 0", "1 2,4 3", api.ErrShape},
		{"Columns", "1 2 .,. 3 4,. . 5", "2 0 2", "2 0 1,3 0 4,0 0 5", api.OK},
		{"Columns", "1 2 .,. 3 4,. . 5", "2 0 2", "2 1 1,3 0 4,0 0 5", api.ErrSum},
		{"Columns", "1 2 .,. 3 4,. . 5", "2 1 0", "0 2 1,4 3 0,5 0 0", api.OK},
		{"Columns", "0 . 0", "0 1 1", "0 0", api.OK},
		{"Columns", "0 . 0", "0 1 2", "0 1/3 0", api.ErrSum},
		{"Rows", "1 2 .,. 3 4,. . 5", "0 1 0", "1 2 5,0 3 4", api.OK},
		{"Rows", "1 2 .,. 3 4,. . 5", "0 1 0", "1 2 5,7 3 4", api.ErrSum},
		{"Rows", "1 2 .,. 3 4,. . 5", "0 0 1", "1 2 0,0 0 5", api.ErrColouring},
		{"Rows", "1 2 .,. 3 4,. . 5", "0 1 0", "1 2 5", api.ErrShape},
		{"Rows", "7,.,.", "1 0 1", "0,7", api.OK},
		{"Rows", "7,.,.", "1 0 1", "-1,7", api.ErrSum},
		{"Star", "1 2 3,2 4 .,3 . 5", "0 1 1", "1 5,2 4,3 5", api.OK},
		{"Star", "1 2 3,2 4 .,3 . 5", "0 1 1", "1 6,2 4,3 5", api.ErrSum},
		{"Star", "1 2 3,2 4 .,3 . 5", "0 2 2", "1 0 5,2 0 4,3 0 5", api.OK},
		{"Star", ". 2,2 .", "0 1", "0 2,2 0", api.OK},
		{"Star", ". 2,2 .", "0 1", "0 2,3 0", api.ErrSum},
		{"Star", ". 2,2 .", "0 1", "0 2,2 1", api.ErrSum},
		{"Star", ". 2 .,2 . 3,. 3 .", "0 1 0", "0 2,5 0,0 3", api.OK},
		{"Star", ". 2 .,2 . 3,. 3 .", "0 1 2", "0 2 0,2 0 3,0 3 0", api.OK},
		{"Star", ". 2 .,2 . 3,. 3 .", "0 1 2", "0 2 0,2 0 4,0 3 0", api.ErrSum},
		{"Star", ". 2 .,2 . .,. . 3", "0 1 0", "0 2,2 0,3 0", api.OK},
		{"Star", ". 1 . .,1 . 2 .,. 2 . 3,. . 3 .", "0 1 0 1", "0 1,3 0,0 5,3 0", api.ErrColouring},
		{"Acyclic", "1 2 3,2 4 .,3 . 5", "0 1 1", "1 5,2 4,3 5", api.OK},
		{"Acyclic", "1 2 3,2 4 .,3 . 5", "0 1 1", "1 6,2 4,3 5", api.ErrSum},
		{"Acyclic", "1 2 3,2 4 .,3 . 5", "0 1 1", "1 5,2 4,4 5", api.ErrSum},
		{"Acyclic", ". 1 . .,1 . 2 .,. 2 . 3,. . 3 .", "0 1 0 1", "0 1,3 0,0 5,3 0", api.OK},
		{"Acyclic", ". 1 . .,1 . 2 .,. 2 . 3,. . 3 .", "0 1 0 1", "0 1,3 0,0 5,4 0", api.ErrSum},
		{"Acyclic", ". 1 . 4,1 . 2 .,. 2 . 3,4 . 3 .", "0 1 0 1", "0 5,3 0,0 5,7 0", api.ErrColouring},
		{"Acyclic", ". 1 . 4,1 . 2 .,. 2 . 3,4 . 3 .", "0 1 0 2", "0 1 4,3 0 0,0 2 3,7 0 0", api.OK},
		{"Acyclic", "1 2,2 .", "0 0", "1,2", api.ErrColouring},
		{"Star", "1 2,. 3", "0 1", "1 2,0 3", api.ErrSquare},
		{"Acyclic", "1 2,. 3", "0 1", "1 2,0 3", api.ErrSquare},
		{"Star", "1 2", "0 1", "1 2", api.ErrSquare},
	} {
		what := fmt.Sprint(x.name, " of ", x.m, " by ", x.colours, ": ", x.sums)
		h := held{p: mat(x.m).P, colours: ints(x.colours), sums: rows(x.sums)}
		if x.e != api.OK {
			wantErrors(t, what, h, x.e, x.name)
			continue
		}
		a := callOf(x.name).do(h)
		wantMatrix(t, what, a.m, a.e, mat(x.m))
	}
}

// P13.4, P13.6: of the entries of an edge one alone is read where the other one has company.
func TestStarReads(t *testing.T) {
	// The arrow: entries (0, 1) and (0, 2) come from rows 1 and 2; then row 0's sum must be theirs.
	for _, x := range []struct {
		sums, m string
	}{
		{"1 5,2 4,3 5", "1 2 3,2 4 .,3 . 5"},
		{"1 0,-1/2 4,1/2 5", "1 -1/2 1/2,-1/2 4 .,1/2 . 5"},
		{"1 10,7 4,3 5", "1 7 3,7 4 .,3 . 5"},
	} {
		m, e := regain.Star(arrow().P, ints("0 1 1"), rows(x.sums))
		wantMatrix(t, x.sums, m, e, mat(x.m))
		m, e = regain.Acyclic(arrow().P, ints("0 1 1"), rows(x.sums))
		wantMatrix(t, x.sums, m, e, mat(x.m))
	}
}

// Example 3: no rows and no columns; and rows without columns, columns without rows.
func TestNothing(t *testing.T) {
	none := mat("")
	for _, name := range []string{"Columns", "Rows", "Star", "Acyclic"} {
		a := callOf(name).do(held{p: none.P})
		wantMatrix(t, name, a.m, a.e, none)
		wantErrors(t, name, held{p: none.P, sums: [][]api.Rat{nil}}, api.ErrShape, name)
		wantErrors(t, name, held{p: none.P, colours: []int{0}}, api.ErrColours, name)
	}
	tall, wide := where(3, 0, nil).pattern(), where(0, 3, nil).pattern()
	m, e := regain.Columns(tall, nil, make([][]api.Rat, 3))
	wantMatrix(t, "Columns, tall", m, e, api.Matrix{P: tall})
	m, e = regain.Columns(wide, ints("0 0 5"), nil)
	wantMatrix(t, "Columns, wide", m, e, api.Matrix{P: wide})
	m, e = regain.Rows(tall, ints("0 0 1"), make([][]api.Rat, 2))
	wantMatrix(t, "Rows, tall", m, e, api.Matrix{P: tall})
	m, e = regain.Rows(wide, nil, nil)
	wantMatrix(t, "Rows, wide", m, e, api.Matrix{P: wide})
	wantErrors(t, "tall", held{p: tall}, api.ErrShape, "Columns")
	wantErrors(t, "tall", held{p: tall, colours: ints("0 0 1"), sums: make([][]api.Rat, 3)}, api.ErrShape, "Rows")
	wantErrors(t, "tall", held{p: tall}, api.ErrSquare, "Star", "Acyclic")
	wantErrors(t, "wide", held{p: wide, colours: ints("0 0 5")}, api.ErrSquare, "Star", "Acyclic")
	for _, m := range []api.Matrix{none, {P: tall}, {P: wide}} {
		for _, name := range []string{"Compress", "CompressRows", "Product"} {
			h := held{m: m, colours: make([]int, m.P.Width), x: nums(strings.Repeat("1 ", m.P.Width))}
			if name == "CompressRows" {
				h.colours = make([]int, m.P.Rows)
			}
			if a := wantPlain(t, callOf(name), h); a.e != api.OK {
				t.Errorf("%s of nothing: %s", name, a.text())
			}
		}
	}
}

// P13.8: by hand.
func TestProductExamples(t *testing.T) {
	for _, x := range []struct{ m, x, want string }{
		{"1 2 .,. 3 4,. . 5", "1 10 100", "21 430 500"},
		{"1 2 .,. 3 4,. . 5", "0 0 0", "0 0 0"},
		{"1/2 -1/3", "2/3 1/2", "1/6"},
		{"1/2,.,-3", "4", "2 0 -12"},
		{". .,. .", "5 6", "0 0"},
	} {
		l, e := regain.Product(mat(x.m), nums(x.x))
		if e != api.OK || showRow(l) != x.want {
			t.Errorf("%s by %s: %s, error %d", x.m, x.x, showRow(l), e)
		}
	}
}
