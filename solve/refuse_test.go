package solve_test

import (
	"fmt"
	"math"
	"math/big"
	"slices"
	"testing"

	"slope/api"
)

// wantErrors fails unless the named calls answer this error and nothing beside it.
func wantErrors(t *testing.T, what string, h held, e api.Errno, names ...string) {
	t.Helper()
	for _, name := range names {
		if a := callOf(name).do(h); a.e != e || !a.isNothing() || a.n != 0 {
			t.Errorf("%s: %s: %s, want error %d", what, name, short(a.text()), e)
		}
	}
}

// allNames are the calls of systems.
func allNames() []string {
	var l []string
	for _, c := range matrixCalls() {
		l = append(l, c.name)
	}
	return l
}

// wrongMatrices are such that may not be, or are too great, by what is wrong.
func wrongMatrices() map[string]api.Matrix {
	good := func() api.Matrix { return mat("1 2 .,. 3 4,5 . 6") }
	z := map[string]api.Matrix{"nothing": {}}
	spoil := func(what string, f func(m *api.Matrix)) {
		m := good()
		f(&m)
		z[what] = m
	}
	spoil("rows below 0", func(m *api.Matrix) { m.P.Rows = -1 })
	spoil("the least rows", func(m *api.Matrix) { m.P.Rows = math.MinInt })
	spoil("the most rows", func(m *api.Matrix) { m.P.Rows = math.MaxInt })
	spoil("width below 0", func(m *api.Matrix) { m.P.Width = -1 })
	spoil("the least width", func(m *api.Matrix) { m.P.Width = math.MinInt })
	spoil("the most width", func(m *api.Matrix) { m.P.Width = math.MaxInt })
	spoil("too few columns", func(m *api.Matrix) { m.P.Width = 2 })
	spoil("rows without a start", func(m *api.Matrix) { m.P.Rows = 4 })
	spoil("no start", func(m *api.Matrix) { m.P.Start = nil })
	spoil("a start that is not 0", func(m *api.Matrix) { m.P.Start[0] = 1 })
	spoil("starts that fall", func(m *api.Matrix) { m.P.Start[1], m.P.Start[2] = 5, 4 })
	spoil("a start out of range", func(m *api.Matrix) { m.P.Start[1] = 99 })
	spoil("an end too early", func(m *api.Matrix) { m.P.Start[3] = 5 })
	spoil("a column below 0", func(m *api.Matrix) { m.P.Cols[0] = -1 })
	spoil("a column twice", func(m *api.Matrix) { m.P.Cols[1] = 0 })
	spoil("a number missing", func(m *api.Matrix) { m.Vals = m.Vals[:5] })
	spoil("a number too many", func(m *api.Matrix) { m.Vals = append(m.Vals, num("1")) })
	for i, r := range wrongNumbers() {
		spoil(fmt.Sprint("wrong number ", i), func(m *api.Matrix) { m.Vals[3] = r })
	}
	none := func(_, _ int) *big.Rat { return nil }
	z["65 rows"] = gridBy(65, 1, none).matrix()
	z["65 columns"] = gridBy(1, 65, none).matrix()
	z["65 of both"] = gridBy(65, 65, none).matrix()
	z["128 rows"] = gridBy(128, 64, none).matrix()
	z["129 columns"] = gridBy(64, 129, none).matrix()
	return z
}

// P16.1 to P16.6: ErrMatrix ahead of all else.
func TestWrongMatrices(t *testing.T) {
	t.Parallel()
	for what, m := range wrongMatrices() {
		for _, b := range [][]api.Rat{nil, nums("1 2 3"), {{}}, nums("1")} {
			wantErrors(t, what, held{a: m, b: b}, api.ErrMatrix, allNames()...)
		}
	}
	// A matrix of 64 rows and columns is one still.
	m := gridBy(64, 64, func(r, c int) *big.Rat {
		if r == c {
			return big.NewRat(1, 1)
		}
		return nil
	}).matrix()
	for _, c := range matrixCalls() {
		if a := wantPlain(t, c, held{a: m, b: make64()}, "the identity"); a.e != api.OK {
			t.Errorf("%s: error %d", c.name, a.e)
		}
	}
}

// make64 are 64 numbers.
func make64() []api.Rat { return slices.Repeat(nums("-3/4"), 64) }

// P16.3: ErrRat of b ahead of its length, that ahead of ErrLarge, that ahead of ErrNone.
func TestSolveFaults(t *testing.T) {
	t.Parallel()
	small, singular := mat("1 2,3 4"), mat("2 1,4 2")
	large := mat("1 2,3 4")
	large.Vals[2] = power2(40000)
	for _, m := range []api.Matrix{small, singular, large} {
		for _, r := range wrongNumbers() {
			for _, b := range [][]api.Rat{{r}, {r, r}, {num("1"), r}, {r, num("1")}, {num("1"), num("3"), r}} {
				wantErrors(t, "a wrong number", held{a: m, b: b}, api.ErrRat, "Solve")
			}
		}
		for _, b := range [][]api.Rat{nil, {}, nums("1"), nums("1 3 5"), slices.Repeat(nums("1"), 1000), {power2(60000)}} {
			wantErrors(t, "another length", held{a: m, b: b}, api.ErrShape, "Solve")
		}
	}
	for _, b := range []string{"1 2", "1 3", "0 0"} {
		wantErrors(t, "large", held{a: large, b: nums(b)}, api.ErrLarge, "Solve")
	}
	// Large by b alone; the matrix is singular, and b fits none.
	wantErrors(t, "large beside", held{a: singular, b: []api.Rat{num("1"), power2(40000)}}, api.ErrLarge, "Solve")
	wantErrors(t, "large beside", held{a: small, b: []api.Rat{ratOf(over(twoTo(40000, 0))), num("1")}}, api.ErrLarge, "Solve")
	// No rows, but a number; rows, but none.
	wantErrors(t, "no rows", held{a: mat(""), b: nums("1")}, api.ErrShape, "Solve")
	wantErrors(t, "no rows", held{a: mat(""), b: []api.Rat{{}}}, api.ErrRat, "Solve")
	// With ErrNone there is a certificate and no solution.
	if a := callOf("Solve").do(held{a: singular, b: nums("1 3")}); a.e != api.ErrNone || len(a.list) != 0 || len(a.proof) != 2 {
		t.Errorf("%s", a.text())
	}
}

// P16.2, P16.5: ErrShape of what is not square, ahead of ErrLarge; that ahead of ErrSingular.
func TestSquareFaults(t *testing.T) {
	t.Parallel()
	names := []string{"Determinant", "Inverse"}
	for _, s := range []string{"1 2", "1,2", "1 2 3,4 5 6", ". .", "0,0"} {
		wantErrors(t, s, held{a: mat(s)}, api.ErrShape, names...)
		m := mat(s)
		for i := range m.Vals {
			m.Vals[i] = power2(60000)
		}
		wantErrors(t, s+", large", held{a: m}, api.ErrShape, names...)
	}
	none := func(_, _ int) *big.Rat { return nil }
	for _, size := range [][2]int{{0, 1}, {1, 0}, {0, 64}, {64, 0}, {63, 64}} {
		wantErrors(t, fmt.Sprint(size), held{a: gridBy(size[0], size[1], none).matrix()}, api.ErrShape, names...)
	}
	large := mat("1 2,2 4")
	large.Vals[0], large.Vals[1] = power2(40000), power2(40001)
	wantErrors(t, "large and singular", held{a: large}, api.ErrLarge, names...)
	wantErrors(t, "large", held{a: large}, api.ErrLarge, "First", "Kernel", "Pivots")
	wantErrors(t, "singular", held{a: mat("1 2,2 4")}, api.ErrSingular, "Inverse")
}

// DOC.md's P1 and P4: no call panics, whatever it is given; of several faults at once the first in the chapter's order is told.
func TestNoPanic(t *testing.T) {
	t.Parallel()
	odd := []int{math.MinInt, -1, 0, 0, 0, 1, 1, 1, 2, 2, 2, 3, 3, 4, 5, 64, 65, 128, 129, math.MaxInt}
	numbers := append(wrongNumbers(), nums("0 1 -2/3 5 0 1 -2/3 5 7/2 -1 3 2/9 4 11 -8 1/7 6 2 2 3")...)
	numbers = append(numbers, power2(20000), power2(40000))
	d := dice(67)
	some := func(n int) []api.Rat {
		var l []api.Rat
		for range n {
			l = append(l, pick(&d, numbers...))
		}
		return l
	}
	met := map[string]map[api.Errno]int{}
	for i := range 20000 {
		rows, width := d.next(4), d.next(4)
		m := d.grid(rows, width, 60, d.little).matrix()
		switch i % 4 {
		case 0:
			m = d.rawMatrix(odd, some)
		case 1:
			m.Vals = some(len(m.Vals))
		case 2:
			for k := range m.Vals {
				m.Vals[k] = pick(&d, m.Vals[k], m.Vals[k], power2(9000+k), ratOf(over(twoTo(7000, 1))))
			}
		}
		h := held{a: m, b: some(pick(&d, max(rows, 0), d.next(5)))}
		if i%3 == 0 {
			h.b = ratsOf(d.numbers(rows, d.little))
		}
		for _, c := range matrixCalls() {
			if met[c.name] == nil {
				met[c.name] = map[api.Errno]int{}
			}
			met[c.name][wantPlain(t, c, h, fmt.Sprint(i)).e]++
		}
	}
	for name, l := range map[string][]api.Errno{
		"First": {api.OK, api.ErrMatrix, api.ErrLarge}, "Kernel": {api.OK, api.ErrMatrix, api.ErrLarge}, "Pivots": {api.OK, api.ErrMatrix, api.ErrLarge},
		"Determinant": {api.OK, api.ErrMatrix, api.ErrShape, api.ErrLarge}, "Inverse": {api.OK, api.ErrMatrix, api.ErrShape, api.ErrLarge, api.ErrSingular},
		"Solve": {api.OK, api.ErrMatrix, api.ErrRat, api.ErrShape, api.ErrLarge, api.ErrNone},
	} {
		for _, e := range l {
			if met[name][e] < 50 {
				t.Errorf("%s: error %d was met %d times", name, e, met[name][e])
			}
		}
	}
}

// rawMatrix is a matrix of odd numbers.
func (d *dice) rawMatrix(odd []int, some func(n int) []api.Rat) api.Matrix {
	m := api.Matrix{P: api.Pattern{Rows: pick(d, odd...), Width: pick(d, odd...)}}
	for range d.next(5) {
		m.P.Start = append(m.P.Start, pick(d, odd...))
	}
	for range d.next(5) {
		m.P.Cols = append(m.P.Cols, pick(d, odd...))
	}
	m.Vals = some(pick(d, len(m.P.Cols), d.next(5)))
	return m
}
