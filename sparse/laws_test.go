package sparse_test

import (
	"fmt"
	"math/big"
	"slices"
	"testing"

	"slope/api"
	"slope/rational"
	"slope/sparse"
)

// great makes a few sides as great as they may be.
func (d *dice) great(i int) int {
	if i%60 == 59 {
		return pick(d, 120, 127, api.MaxSide)
	}
	return d.side()
}

// P9.13: turning, products and unions.
func TestProductLaws(t *testing.T) {
	t.Parallel()
	d := dice(6)
	pattern := must[api.Pattern](t, "a call")
	full := 0
	for i := range 600 {
		n, m, k, l := d.great(i), d.great(i), d.great(i), d.great(i)
		a, b, b2, c := d.pattern(n, m), d.pattern(m, k), d.pattern(m, k), d.pattern(k, l)
		a2 := d.pattern(n, m)
		turn := func(p api.Pattern) api.Pattern { return pattern(sparse.Turn(p)) }
		times := func(p, q api.Pattern) api.Pattern { return pattern(sparse.Product(p, q)) }
		union := func(l ...api.Pattern) api.Pattern { return pattern(sparse.Union(l...)) }
		samePattern(t, "Turn of Turn", turn(turn(a)), a)
		samePattern(t, "Turn of Product", turn(times(a, b)), times(turn(b), turn(a)))
		samePattern(t, "Product is associative", times(times(a, b), c), times(a, times(b, c)))
		samePattern(t, "Product goes over Union, right", times(a, union(b, b2)), union(times(a, b), times(a, b2)))
		samePattern(t, "Product goes over Union, left", times(union(a, a2), b), union(times(a, b), times(a2, b)))
		samePattern(t, "Turn goes over Union", turn(union(a, a2)), union(turn(a), turn(a2)))
		samePattern(t, "Union of one", union(a), a)
		samePattern(t, "Union in any order", union(a, a2, a), union(a2, a))
		inter := pattern(sparse.Inter(a, a2))
		samePattern(t, "Inter is in both", union(a, inter, a), a)
		samePattern(t, "Inter of one", pattern(sparse.Inter(a2)), a2)
		if sparse.Count(inter)+sparse.Count(union(a, a2)) != sparse.Count(a)+sparse.Count(a2) {
			t.Fatalf("Inter and Union of %s and %s", short(showPattern(a)), short(showPattern(a2)))
		}
		if n*m > 0 && sparse.Count(a) == n*m {
			full++
		}
	}
	if full < 20 {
		t.Errorf("%d full patterns", full)
	}
}

// undo is the order that undoes one.
func undo(l []int) []int {
	z := make([]int, len(l))
	for i, n := range l {
		z[n] = i
	}
	return z
}

// P9.13, P9.6: Permute by an order and then by the one that undoes it.
func TestPermuteLaws(t *testing.T) {
	d := dice(7)
	pattern := must[api.Pattern](t, "Permute")
	for i := range 400 {
		p := d.pattern(d.great(i), d.great(i))
		rows, cols := d.order(p.Rows), d.order(p.Width)
		q := pattern(sparse.Permute(p, rows, cols))
		samePattern(t, "there and back", pattern(sparse.Permute(q, undo(rows), undo(cols))), p)
		if sparse.Count(q) != sparse.Count(p) {
			t.Fatal("a place is lost")
		}
		rs, cs, _ := sparse.Places(q)
		for i := range rs {
			if !sparse.Has(p, rows[rs[i]], cols[cs[i]]) {
				t.Fatalf("(%d,%d) comes from no place", rs[i], cs[i])
			}
			if i > 50 {
				break
			}
		}
		samePattern(t, "the order that changes nothing", pattern(sparse.Permute(p, slices.Sorted(slices.Values(rows)), slices.Sorted(slices.Values(cols)))), p)
	}
}

// P9.6: lists that are no orders; of rows and of columns.
func TestNoOrders(t *testing.T) {
	p := pat(3, 2, "0,1 2,0")
	for _, l := range []string{"", "0 1", "0 1 2 3", "0 1 1", "0 0 0", "1 2 3", "-1 0 1", "0 1 3", "0 2 -1", "0 1 2 0", "9223372036854775807 0 1", "-9223372036854775808 0 1"} {
		_, e := sparse.Permute(p, ints(l), ints("1 0"))
		wantError(t, "rows "+l, e, api.ErrOrder)
		_, e = sparse.Permute(p, ints(l), ints("0 0"))
		wantError(t, "rows "+l+", and columns", e, api.ErrOrder)
		q, _ := sparse.Turn(p)
		_, e = sparse.Permute(q, ints("1 0"), ints(l))
		wantError(t, "columns "+l, e, api.ErrOrder)
	}
	// An order of the columns is none of the rows.
	_, e := sparse.Permute(p, ints("1 0"), ints("0 1 2"))
	wantError(t, "exchanged", e, api.ErrOrder)
	for _, size := range [][2]int{{0, 0}, {0, 2}, {3, 0}, {1, 1}} {
		q, e := sparse.Permute(pat(size[0], size[1], ""), ints("0 1 2")[:size[0]], ints("0 1")[:size[1]])
		wantPattern(t, fmt.Sprint(size), q, e, pat(size[0], size[1], ""))
	}
}

// P9.13, P9.5: symmetry, components and blocks.
func TestVertexLaws(t *testing.T) {
	d := dice(8)
	pattern, list := must[api.Pattern](t, "a call"), must[[]int](t, "a call")
	for i := range 500 {
		n := d.great(i)
		p := d.pattern(n, n)
		if i%3 == 0 {
			p = mark(n, n, func(r, c int) bool { return d.next(n) == 0 }).pattern()
		}
		closed, graph := pattern(sparse.Close(p)), pattern(sparse.Graph(p))
		samePattern(t, "Close of Close", pattern(sparse.Close(closed)), closed)
		samePattern(t, "Close by Union", pattern(sparse.Union(p, pattern(sparse.Turn(p)))), closed)
		samePattern(t, "Graph of Graph", pattern(sparse.Graph(graph)), graph)
		if !sparse.Symmetric(closed) || !sparse.Symmetric(graph) {
			t.Fatal("Close or Graph is not symmetric")
		}
		if sparse.Symmetric(p) != (showPattern(p) == showPattern(closed)) {
			t.Fatal("Symmetric of a pattern that is not closed, or the other way round")
		}
		whole, parts := list(sparse.Components(p)), list(sparse.Blocks(p))
		if !slices.Equal(whole, list(sparse.Components(closed))) || !slices.Equal(whole, list(sparse.Components(graph))) {
			t.Fatal("Components of Close, or of Graph, are others")
		}
		if !slices.Equal(whole, list(sparse.Blocks(closed))) {
			t.Fatal("a symmetric pattern's blocks are not its components")
		}
		of := map[int]int{}
		for v, b := range parts {
			if c, met := of[b]; met && c != whole[v] {
				t.Fatalf("block %d is in components %d and %d", b, c, whole[v])
			}
			of[b] = whole[v]
		}
	}
}

// dense is a matrix's numbers as a text.
func dense(t *testing.T, m api.Matrix) string {
	t.Helper()
	l, e := sparse.Dense(m)
	if e != api.OK {
		t.Fatalf("Dense: error %d", e)
	}
	s := fmt.Sprint(m.P.Rows, "x", m.P.Width)
	for _, r := range l {
		s += row(r)
	}
	return s
}

// matrixAt is a matrix at random; a great one is thin, so that products of several of them end soon.
func (d *dice) matrixAt(rows, width int) api.Matrix {
	if rows < 100 && width < 100 {
		return d.matrix(rows, width)
	}
	return fill(rows, width, func(r, c int) *big.Rat {
		if d.next(60) > 0 {
			return nil
		}
		return bigOf(d.number())
	}).matrix()
}

// P9.14: sums and products.
func TestMatrixLaws(t *testing.T) {
	d := dice(9)
	matrix := must[api.Matrix](t, "a call")
	turn := func(m api.Matrix) api.Matrix { return matrix(sparse.TurnMatrix(m)) }
	plus := func(a, b api.Matrix) api.Matrix { return matrix(sparse.Plus(a, b)) }
	times := func(a, b api.Matrix) api.Matrix { return matrix(sparse.Times(a, b)) }
	same := func(what string, a, b api.Matrix) {
		t.Helper()
		if !sparse.Same(a, b) || dense(t, a) != dense(t, b) {
			t.Fatalf("%s: %s and %s", what, short(dense(t, a)), short(dense(t, b)))
		}
	}
	cancelled, great := 0, 0
	for i := range 420 {
		n, m, k, l := d.great(i), d.great(i), d.great(i), d.great(i)
		if min(n, m, k, l) >= 120 {
			great++
		}
		a, a2, a3, b, b2, c := d.matrixAt(n, m), d.matrixAt(n, m), d.matrixAt(n, m), d.matrixAt(m, k), d.matrixAt(m, k), d.matrixAt(k, l)
		same("Plus is commutative", plus(a, a2), plus(a2, a))
		same("Plus is associative", plus(plus(a, a2), a3), plus(a, plus(a2, a3)))
		same("Times is associative", times(times(a, b), c), times(a, times(b, c)))
		same("Turn of Turn", turn(turn(a)), a)
		same("Turn of Times", turn(times(a, b)), times(turn(b), turn(a)))
		same("Turn of Plus", turn(plus(a, a2)), plus(turn(a), turn(a2)))
		if x, y := dense(t, times(a, plus(b, b2))), dense(t, plus(times(a, b), times(a, b2))); x != y {
			t.Fatalf("Times goes over Plus, right: %s and %s", short(x), short(y))
		}
		if x, y := dense(t, times(plus(a, a2), b)), dense(t, plus(times(a, b), times(a2, b))); x != y {
			t.Fatalf("Times goes over Plus, left: %s and %s", short(x), short(y))
		}
		pattern := must[api.Pattern](t, "a pattern")
		samePattern(t, "Plus is on the Union", plus(a, a2).P, pattern(sparse.Union(a.P, a2.P)))
		samePattern(t, "Times is on the Product", times(a, b).P, pattern(sparse.Product(a.P, b.P)))
		samePattern(t, "TurnMatrix is on Turn", turn(a).P, pattern(sparse.Turn(a.P)))
		for _, v := range times(a, b).Vals {
			if rational.Sign(v) == 0 {
				cancelled++
			}
		}
	}
	if cancelled < 100 || great < 5 {
		t.Errorf("%d entries that are 0, %d times great matrices", cancelled, great)
	}
}

// P9.14: there and back between Dense and Sparse; Pad.
func TestDenseLaws(t *testing.T) {
	d := dice(10)
	matrix := must[api.Matrix](t, "Sparse")
	for i := range 500 {
		m := d.matrix(d.great(i), d.great(i))
		l, e := sparse.Dense(m)
		if e != api.OK || len(l) != m.P.Rows {
			t.Fatalf("Dense: %d rows of %d, error %d", len(l), m.P.Rows, e)
		}
		s := matrix(sparse.Sparse(l, m.P.Width))
		kept := 0
		for _, v := range m.Vals {
			kept += rational.Sign(v) * rational.Sign(v)
		}
		if sparse.Count(s.P) != kept || slices.ContainsFunc(s.Vals, func(v api.Rat) bool { return rational.Sign(v) == 0 }) {
			t.Fatalf("Sparse of Dense has %d entries, want %d", sparse.Count(s.P), kept)
		}
		if dense(t, s) != dense(t, m) {
			t.Fatal("Dense of Sparse is another list")
		}
		if sparse.Same(s, m) != (kept == sparse.Count(m.P)) {
			t.Fatal("Same of a matrix and that without zeros")
		}
		// On a pattern with all its places the matrix is the same but for zeros; on its own it is itself.
		wide, all, e := sparse.Pad(m, d.wider(m.P))
		if e != api.OK || !all || dense(t, wide) != dense(t, m) {
			t.Fatalf("Pad to a wider pattern: %v, error %d", all, e)
		}
		own, all, e := sparse.Pad(m, m.P)
		if e != api.OK || !all || !sparse.Same(own, m) {
			t.Fatalf("Pad to its own pattern: %v, error %d", all, e)
		}
		back, all, e := sparse.Pad(m, s.P)
		if e != api.OK || !all || !sparse.Same(back, s) {
			t.Fatalf("Pad to the places that are not 0: %v, error %d", all, e)
		}
		none, all, e := sparse.Pad(m, pat(m.P.Rows, m.P.Width, ""))
		if e != api.OK || all != (kept == 0) || len(none.Vals) > 0 {
			t.Fatalf("Pad to nothing: %v, error %d", all, e)
		}
	}
}

// P9.9: matrices that are unlike in one thing alone; places and numbers both count.
func TestSame(t *testing.T) {
	m := mat(2, 3, "0,1=2/3 1,0=0 1,2=-5")
	for name, other := range map[string]api.Matrix{
		"a place fewer, its number 0": mat(2, 3, "0,1=2/3 1,2=-5"),
		"a place more, its number 0":  mat(2, 3, "0,0=0 0,1=2/3 1,0=0 1,2=-5"),
		"another place":               mat(2, 3, "0,1=2/3 1,0=0 1,1=-5"),
		"another row":                 mat(2, 3, "0,0=2/3 0,1=0 1,2=-5"),
		"a sign":                      mat(2, 3, "0,1=2/3 1,0=0 1,2=5"),
		"a Num":                       mat(2, 3, "0,1=1/3 1,0=0 1,2=-5"),
		"a Den":                       mat(2, 3, "0,1=2/5 1,0=0 1,2=-5"),
		"more columns":                mat(2, 4, "0,1=2/3 1,0=0 1,2=-5"),
		"more rows":                   mat(3, 3, "0,1=2/3 1,0=0 1,2=-5"),
	} {
		if sparse.Same(m, other) || sparse.Same(other, m) || !sparse.Same(other, other) {
			t.Error(name)
		}
	}
	if !sparse.Same(m, mat(2, 3, "0,1=2/3 1,0=0 1,2=-5")) {
		t.Error("the same")
	}
}
