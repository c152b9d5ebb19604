package solve_test

import (
	"fmt"
	"iter"
	"maps"
	"math/big"
	"slices"
	"testing"

	"slope/api"
	"slope/solve"
	"slope/sparse"
)

// inOrder goes through grids by their names, so that dice fall alike in every run.
func inOrder(z map[string]grid) iter.Seq2[string, grid] {
	return func(yield func(string, grid) bool) {
		for _, name := range slices.Sorted(maps.Keys(z)) {
			if !yield(name, z[name]) {
				return
			}
		}
	}
}

// sorts are grids of every sort of so many rows and columns, by names.
func (d *dice) sorts(rows, width int) iter.Seq2[string, grid] {
	where := func(f func(r, c int) bool) grid {
		return gridBy(rows, width, func(r, c int) *big.Rat {
			if f(r, c) {
				return big.NewRat(int64(1+d.next(9)), int64(pick(d, 1, 1, 2)))
			}
			return nil
		})
	}
	to := make([]int, rows)
	for r := range to {
		to[r] = r
	}
	for r := range to {
		k := r + d.next(rows-r)
		to[r], to[k] = to[k], to[r]
	}
	least := min(rows, width)
	z := map[string]grid{
		"a diagonal":       where(func(r, c int) bool { return r == c }),
		"a permutation":    where(func(r, c int) bool { return to[r] == c }),
		"three diagonals":  where(func(r, c int) bool { return r-1 <= c && c <= r+1 }),
		"an arrow":         where(func(r, c int) bool { return r == 0 || c == 0 || r == c }),
		"an arrow's end":   where(func(r, c int) bool { return r == rows-1 || c == width-1 || r == c }),
		"below":            where(func(r, c int) bool { return c <= r }),
		"above":            where(func(r, c int) bool { return c >= r }),
		"strictly above":   where(func(r, c int) bool { return c > r }),
		"blocks":           where(func(r, c int) bool { return r/3 == c/3 }),
		"a chequer":        where(func(r, c int) bool { return (r+c)%2 == 0 }),
		"one row":          where(func(r, _ int) bool { return r == rows/2 }),
		"one column":       where(func(_, c int) bool { return c == width/2 }),
		"a row missing":    where(func(r, c int) bool { return r != rows/2 && r-2 <= c && c <= r+2 }),
		"a column missing": where(func(r, c int) bool { return c != width/2 && r-2 <= c && c <= r+2 }),
		"no entries":       where(func(_, _ int) bool { return false }),
		"zeros":            gridBy(rows, width, func(_, _ int) *big.Rat { return new(big.Rat) }),
		"ones":             gridBy(rows, width, func(_, _ int) *big.Rat { return big.NewRat(1, 1) }),
		"few":              d.grid(rows, width, 5, d.little),
		"some":             d.grid(rows, width, 15, d.little),
		"half the rank":    d.ofRank(rows, width, least/2, d.little),
		"one rank less":    d.ofRank(rows, width, max(least-1, 0), d.little),
	}
	return inOrder(z)
}

// sizes are rows and columns that are asked of.
func sizes() [][2]int {
	return [][2]int{{1, 1}, {2, 2}, {3, 5}, {5, 3}, {6, 6}, {9, 9}, {13, 7}, {7, 13}}
}

// P16.1 to P16.6: sorts of matrices against the plain calls, those of 64 rows and columns too.
func TestSorts(t *testing.T) {
	t.Parallel()
	d := dice(23)
	all := append(sizes(), [2]int{64, 64}, [2]int{64, 20}, [2]int{20, 64}, [2]int{1, 64}, [2]int{64, 1})
	for _, size := range all {
		for _, g := range d.sorts(size[0], size[1]) {
			b := d.numbers(size[0], d.little)
			if d.next(2) == 0 {
				b = timesCol(g.full(), d.numbers(size[1], d.little))
			}
			wantAll(t, g, b)
		}
	}
}

// P16.1 to P16.6: full matrices of 64 rows and columns, and one whose Dens alone come near MaxSolve.
func TestFull(t *testing.T) {
	t.Parallel()
	d := dice(29)
	wantAll(t, d.grid(64, 64, 100, d.little), d.numbers(64, d.number))
	wantAll(t, d.ofRank(64, 64, 60, d.little), d.numbers(64, d.little))
	// 1 over r + c + 1: the inverse is whole, the determinant 1 over a whole number.
	hilbert := gridBy(64, 64, func(r, c int) *big.Rat { return big.NewRat(1, int64(r+c+1)) })
	if w := plainWeight(hilbert.matrix(), nil); w < 26000 || w > 32768 {
		t.Fatalf("the weight is %d", w)
	}
	wantAll(t, hilbert, d.numbers(64, d.little))
	h := held{a: hilbert.matrix()}
	if r := callOf("Determinant").do(h).number; len(r.Num) != 1 || r.Num[0] != 1 {
		t.Errorf("the determinant is %s", short(show(r)))
	}
	for _, r := range callOf("Inverse").do(h).numbers() {
		if len(r.Den) != 1 || r.Den[0] != 1 {
			t.Fatalf("the inverse has %s", short(show(r)))
		}
	}
}

// isIdentity tells whether a matrix of this many rows is.
func isIdentity(m api.Matrix, n int) bool {
	for r, l := range gridIn(m).full() {
		for c, v := range l {
			if want := r == c; want != (v.Cmp(big.NewRat(1, 1)) == 0) || !want && v.Sign() != 0 {
				return false
			}
		}
	}
	return m.P.Rows == n && m.P.Width == n
}

// P16.9: rank, determinant, kernel and inverse of a matrix and of the turned one.
func TestRules(t *testing.T) {
	t.Parallel()
	d := dice(31)
	regular := 0
	for _, size := range append(sizes(), [2]int{30, 30}, [2]int{64, 64}) {
		for name, g := range d.sorts(size[0], size[1]) {
			what := fmt.Sprint(name, " of ", size)
			m := g.matrix()
			first, _ := solve.First(m)
			turned, _ := solve.First(g.turned().matrix())
			pivots, _, _ := solve.Pivots(m)
			kernel, _ := solve.Kernel(m)
			if len(first) != len(turned) || len(first) != len(pivots) || len(kernel) != size[1]-len(first) {
				t.Fatalf("%s: rank %d, turned %d, %d pivots, %d in the kernel", what, len(first), len(turned), len(pivots), len(kernel))
			}
			wantKernelRules(t, what, g, first, kernel)
			if size[0] == size[1] && wantSquareRules(t, what, g, len(first)) {
				regular++
			}
		}
	}
	if regular < 20 {
		t.Errorf("%d were regular", regular)
	}
}

// wantKernelRules fails unless each vector is made 0, is 1 at its own column that is not first, and 0 at the others.
func wantKernelRules(t *testing.T, what string, g grid, first []int, kernel [][]api.Rat) {
	t.Helper()
	k := 0
	for f := range g.width {
		if slices.Contains(first, f) {
			continue
		}
		for c := range g.width {
			if !slices.Contains(first, c) && (show(kernel[k][c]) == "1") != (c == f) {
				t.Fatalf("%s: vector %d is %s at %d", what, k, show(kernel[k][c]), c)
			}
		}
		for r, v := range timesCol(g.full(), bigsOf(kernel[k])) {
			if v.Sign() != 0 {
				t.Fatalf("%s: vector %d makes %s in row %d", what, k, v.RatString(), r)
			}
		}
		k++
	}
}

// wantSquareRules fails unless determinant, rank, pivots and inverse of a square matrix go together; it tells whether there is an inverse.
func wantSquareRules(t *testing.T, what string, g grid, rank int) bool {
	t.Helper()
	n, m := g.width, g.matrix()
	det, _ := solve.Determinant(m)
	inverse, e := solve.Inverse(m)
	if isRegular := rank == n; isRegular != (bigOf(det).Sign() != 0) || isRegular != (e == api.OK) {
		t.Fatalf("%s: rank %d, determinant %s, error %d", what, rank, show(det), e)
	}
	if e != api.OK {
		return false
	}
	if p := byPivots(t, m); p.Cmp(bigOf(det)) != 0 {
		t.Fatalf("%s: determinant %s, by pivots %s", what, show(det), p.RatString())
	}
	other, _ := sparse.Sparse(inverse, n)
	one, _ := sparse.Times(m, other)
	two, _ := sparse.Times(other, m)
	if !isIdentity(one, n) || !isIdentity(two, n) {
		t.Fatalf("%s: the inverse is none", what)
	}
	if back, e := solve.Inverse(other); e == api.OK && showRows(back) != showRows(mustDense(m)) {
		t.Fatalf("%s: the inverse's inverse is another one", what)
	}
	return true
}

// mustDense is a matrix' numbers, row by row.
func mustDense(m api.Matrix) [][]api.Rat {
	l, e := sparse.Dense(m)
	if e != api.OK {
		panic(e)
	}
	return l
}

// byPivots is the determinant as the product of the pivots' values, with the sign of the order that they make.
func byPivots(t *testing.T, m api.Matrix) *big.Rat {
	t.Helper()
	l, _, e := solve.Pivots(m)
	if e != api.OK {
		t.Fatalf("Pivots: error %d", e)
	}
	z := big.NewRat(1, 1)
	to := make([]int, m.P.Rows)
	for _, p := range l {
		z.Mul(z, bigOf(p.Value))
		to[p.Row] = p.Col
	}
	for r := range to {
		for to[r] != r {
			k := to[r]
			to[r], to[k] = to[k], k
			z.Neg(z)
		}
	}
	return z
}

// P16.9: the determinant of a product is the determinants' product.
func TestDeterminantOfProduct(t *testing.T) {
	t.Parallel()
	d := dice(37)
	for range 400 {
		n := d.next(9)
		f := pick(&d, d.number, d.little)
		a, b := d.grid(n, n, pick(&d, 40, 70, 100), f).matrix(), d.grid(n, n, pick(&d, 40, 70, 100), f).matrix()
		ab, e := sparse.Times(a, b)
		if e != api.OK {
			t.Fatalf("Times: error %d", e)
		}
		x, _ := solve.Determinant(a)
		y, _ := solve.Determinant(b)
		z, e := solve.Determinant(ab)
		if want := new(big.Rat).Mul(bigOf(x), bigOf(y)); e != api.OK || bigOf(z).Cmp(want) != 0 {
			t.Fatalf("%s times %s: %s, error %d, want %s", gridIn(a).text(), gridIn(b).text(), show(z), e, want.RatString())
		}
	}
}

// P16.3, P16.9: a solution solves, and then no certificate is there: what the turned matrix makes 0 makes 0 of b. Else the certificate shows it.
func TestSolutions(t *testing.T) {
	t.Parallel()
	d := dice(41)
	solved, not := 0, 0
	for range 1500 {
		rows, width := d.next(9), d.next(9)
		f := pick(&d, d.number, d.little)
		g := d.ofRank(rows, width, d.next(min(rows, width)+1), f)
		b := d.numbers(rows, f)
		if d.next(2) == 0 {
			b = timesCol(g.full(), d.numbers(width, f))
		}
		h := held{a: g.matrix(), b: ratsOf(b)}
		x, y, e := solve.Solve(h.a, h.b)
		ways, _ := solve.Kernel(g.turned().matrix())
		barred := slices.ContainsFunc(ways, func(l []api.Rat) bool { return dot(bigsOf(l), b).Sign() != 0 })
		if barred {
			not++
			if s := proofFault(h, y); e != api.ErrNone || len(x) != 0 || s != "" {
				t.Fatalf("%s: %s, error %d: %s", g.text(), showRow(x), e, s)
			}
			continue
		}
		solved++
		first, _ := solve.First(h.a)
		if e != api.OK || len(y) != 0 || len(x) != width {
			t.Fatalf("%s: %s, error %d", g.text(), showRow(x), e)
		}
		for c, v := range x {
			if len(v.Num) > 0 && !slices.Contains(first, c) {
				t.Fatalf("%s: %s: column %d is not first", g.text(), showRow(x), c)
			}
		}
		if got := timesCol(g.full(), bigsOf(x)); showRow(ratsOf(got)) != showRow(h.b) {
			t.Fatalf("%s: %s makes %s", g.text(), showRow(x), showRow(ratsOf(got)))
		}
	}
	if solved < 300 || not < 300 {
		t.Errorf("%d were solved, %d not", solved, not)
	}
}

// P16.1, P16.3, P16.4: what is asked of columns hangs on no order of the rows, and on no factor of a row.
func TestRowsMixed(t *testing.T) {
	t.Parallel()
	d := dice(43)
	for range 500 {
		rows, width := 1+d.next(8), d.next(9)
		g := d.ofRank(rows, width, d.next(min(rows, width)+1), d.little)
		b := timesCol(g.full(), d.numbers(width, d.number))
		mixed := grid{width: width}
		var c []*big.Rat
		for _, r := range d.mixed(rows) {
			by := big.NewRat(int64(1+d.next(9)), int64(-1-d.next(9)))
			l := make([]*big.Rat, width)
			for i, v := range g.at[r] {
				if v != nil {
					l[i] = new(big.Rat).Mul(v, by)
				}
			}
			mixed.at, c = append(mixed.at, l), append(c, new(big.Rat).Mul(b[r], by))
		}
		h, k := held{a: g.matrix(), b: ratsOf(b)}, held{a: mixed.matrix(), b: ratsOf(c)}
		for _, name := range []string{"First", "Solve", "Kernel"} {
			if x, y := callOf(name).do(h), callOf(name).do(k); x.e != api.OK || x.text() != y.text() {
				t.Fatalf("%s of %s and of %s: %s, %s", name, g.text(), mixed.text(), x.text(), y.text())
			}
		}
	}
}

// mixed is an order of n things at random.
func (d *dice) mixed(n int) []int {
	l := make([]int, n)
	for i := range l {
		k := d.next(i + 1)
		l[i], l[k] = l[k], i
	}
	return l
}
