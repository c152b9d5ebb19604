package regain_test

import (
	"fmt"
	"math/big"
	"testing"

	"slope/api"
	"slope/regain"
	"slope/sparse"
)

// P13.7: there and back, for every kind, on patterns and graphs of every sort, with greedy's colours and others.
func TestThereAndBack(t *testing.T) {
	t.Parallel()
	for _, kind := range kinds() {
		for _, n := range []int{0, 1, 2, 3, 4, 5, 6, 7, 9, 16, 33} {
			t.Run(fmt.Sprint(nameOf(kind), " ", n), func(t *testing.T) {
				t.Parallel()
				d := dice(7)
				for name, s := range d.sorts(kind, n) {
					for _, colours := range d.colourings(t, kind, s) {
						wantBack(t, name, kind, d.matrix(kind, s), colours)
					}
				}
			})
		}
	}
}

// wantBack fails unless a matrix comes back out of its sums.
func wantBack(t *testing.T, what string, kind api.ColourKind, m api.Matrix, colours []int) {
	t.Helper()
	a := callOf(nameOf(kind)).do(held{p: m.P, colours: colours, sums: sumsOf(t, kind, m, colours)})
	if a.e != api.OK || !sameMatrix(a.m, m) {
		t.Fatalf("%s of %s: %s, colours %v: %s, want %s", nameOf(kind), what, short(fmt.Sprint(m.P)), colours, short(a.text()), short(showRow(m.Vals)))
	}
}

// P13.7: colours of a narrower kind do as well: Star's for Acyclic, and both give the same matrix; those of Columns for symmetric ones with all of the diagonal.
func TestOtherKindsBack(t *testing.T) {
	t.Parallel()
	d := dice(8)
	for range 300 {
		s := d.small(api.ColourStar, 9)
		wantBack(t, "star colours", api.ColourAcyclic, d.matrix(api.ColourStar, s), d.greedy(t, api.ColourStar, s))
		for v := range s.rows {
			s.has[v][v] = true
		}
		m, colours := d.matrix(api.ColourStar, s), d.greedy(t, api.ColourColumns, s)
		for _, kind := range kinds() {
			wantBack(t, "columns' colours", kind, m, colours)
		}
	}
}

// P13.6: what is answered with OK has just these sums, and is symmetric where it must be; an ErrSum means that no matrix has them. Sums at random, nearly those of a matrix, and those of matrices that are not symmetric.
func TestJustTheseSums(t *testing.T) {
	t.Parallel()
	for _, kind := range kinds() {
		t.Run(nameOf(kind), func(t *testing.T) {
			t.Parallel()
			d := dice(9)
			met := map[api.Errno]int{}
			for i := range 1500 {
				s := d.small(kind, pick(&d, 1, 2, 4, 6))
				colours := pick(&d, d.colourings(t, kind, s)...)
				if plainCount(colours) > 8 {
					continue
				}
				h := held{p: s.pattern(), colours: colours, sums: d.sums(t, i, kind, s, colours)}
				a := callOf(nameOf(kind)).do(h)
				met[a.e]++
				want, found := solved(t, kind, s, colours, bigRows(h.sums))
				if found != (a.e == api.OK) || !found && (a.e != api.ErrSum || !a.isNothing()) {
					t.Fatalf("%s of %s: %s, a solution: %v", nameOf(kind), h.text(), a.text(), found)
				}
				if !found {
					continue
				}
				wantMatrix(t, h.text(), a.m, a.e, want.matrix())
				if !sameRows(sumsOf(t, kind, a.m, colours), h.sums) {
					t.Fatalf("%s of %s: other sums: %s", nameOf(kind), h.text(), a.text())
				}
			}
			if met[api.OK] < 100 || met[api.ErrSum] < 100 {
				t.Errorf("errors were met so often: %v", met)
			}
		})
	}
}

// sums are those of a matrix, or nearly, or of one that is not symmetric, or zeros and ones.
func (d *dice) sums(t *testing.T, how int, kind api.ColourKind, s sheet, colours []int) [][]api.Rat {
	t.Helper()
	l := clone(sumsOf(t, kind, d.matrix(kind, s), colours))
	switch how % 4 {
	case 1:
		l = clone(sumsOf(t, kind, d.matrix(api.ColourColumns, s), colours))
	case 2:
		if r := d.next(max(1, len(l))); len(l) > 0 && len(l[r]) > 0 {
			c := d.next(len(l[r]))
			l[r][c] = d.other(l[r][c])
		}
	case 3:
		for _, row := range l {
			for c := range row {
				row[c] = num(pick(d, "0", "0", "0", "1"))
			}
		}
	}
	return l
}

// solved is the matrix on the sheet that has the sums, symmetric if the kind asks for it, and whether there is one: by elimination, of one unknown number for each place, or for each two across the diagonal. It fails if there are several.
func solved(t *testing.T, kind api.ColourKind, s sheet, colours []int, sums [][]*big.Rat) (table, bool) {
	t.Helper()
	index := map[[2]int]int{}
	for r := range s.rows {
		for c := range s.width {
			if s.has[r][c] && !(isOfGraphs(kind) && c < r) {
				index[[2]int{r, c}] = len(index)
			}
		}
	}
	of := func(r, c int) int {
		if isOfGraphs(kind) && c < r {
			r, c = c, r
		}
		return index[[2]int{r, c}]
	}
	n := len(index)
	var system [][]*big.Rat // a number for each unknown, and the sum
	for a := range sums {
		for b := range sums[a] {
			line := make([]*big.Rat, n+1)
			for k := range n {
				line[k] = new(big.Rat)
			}
			line[n] = sums[a][b]
			for r := range s.rows {
				for c := range s.width {
					mine := kind == api.ColourRows && colours[r] == a && c == b || kind != api.ColourRows && r == a && colours[c] == b
					if s.has[r][c] && mine {
						line[of(r, c)].Add(line[of(r, c)], big.NewRat(1, 1))
					}
				}
			}
			system = append(system, line)
		}
	}
	rank := eliminate(system, n)
	for _, line := range system[rank:] {
		if line[n].Sign() != 0 {
			return table{}, false
		}
	}
	if rank != n {
		t.Fatalf("%s: %d of %d entries are told by the sums", nameOf(kind), rank, n)
	}
	z := tableOf(s)
	for r := range s.rows {
		for c := range s.width {
			if s.has[r][c] {
				z.at[r][c] = system[of(r, c)][n]
			}
		}
	}
	return z, true
}

// eliminate brings a system to a form in which line k has unknown k alone, as long as each has one: how many do.
func eliminate(system [][]*big.Rat, n int) int {
	rank := 0
	for k := range n {
		pivot := rank
		for pivot < len(system) && system[pivot][k].Sign() == 0 {
			pivot++
		}
		if pivot == len(system) {
			continue
		}
		system[rank], system[pivot] = system[pivot], system[rank]
		by := new(big.Rat).Inv(system[rank][k])
		for c := range n + 1 {
			system[rank][c] = new(big.Rat).Mul(system[rank][c], by)
		}
		for r := range system {
			if r == rank || system[r][k].Sign() == 0 {
				continue
			}
			times := system[r][k]
			for c := range n + 1 {
				system[r][c] = new(big.Rat).Sub(system[r][c], new(big.Rat).Mul(times, system[rank][c]))
			}
		}
		rank++
	}
	return rank
}

// P13.8: Compress is, column by column, Product with the Seed's columns; CompressRows is Compress of the turned matrix, turned. Colours of any kind or none.
func TestCompressIsProduct(t *testing.T) {
	t.Parallel()
	d := dice(10)
	for i := range 400 {
		kind := kinds()[i%2]
		s := d.small(kind, pick(&d, 3, 8, 20))
		m := d.matrix(kind, s)
		if kind == api.ColourRows {
			m, _ = sparse.TurnMatrix(m)
		}
		colours := make([]int, m.P.Width)
		for v := range colours {
			colours[v] = d.next(pick(&d, 1, 3, 7, 128))
		}
		sums, e := regain.Compress(m, colours)
		seed, f := regain.Seed(colours)
		if e != api.OK || f != api.OK || len(sums) != m.P.Rows || len(seed) != m.P.Width {
			t.Fatalf("errors %d, %d", e, f)
		}
		for c := range plainCount(colours) {
			var x, want []api.Rat
			for _, row := range seed {
				x = append(x, row[c])
			}
			for _, row := range sums {
				want = append(want, row[c])
			}
			if l, e := regain.Product(m, x); e != api.OK || !sameAll(l, want) {
				t.Fatalf("colour %d of %v: %s, error %d, want %s", c, colours, showRow(l), e, showRow(want))
			}
		}
		wantTurned(t, m, colours, sums)
	}
}

// wantTurned fails unless the turned matrix has the sums, turned, by its rows.
func wantTurned(t *testing.T, m api.Matrix, colours []int, sums [][]api.Rat) {
	t.Helper()
	turned, _ := sparse.TurnMatrix(m)
	byRows, e := regain.CompressRows(turned, colours)
	if e != api.OK || len(byRows) != plainCount(colours) {
		t.Fatalf("CompressRows: error %d, %d rows", e, len(byRows))
	}
	for c, row := range byRows {
		if len(row) != m.P.Rows {
			t.Fatalf("CompressRows: a row of %d", len(row))
		}
		for i := range row {
			if !same(row[i], sums[i][c]) {
				t.Fatalf("CompressRows: row %d, place %d: %s, want %s", c, i, showRow(row[i:i+1]), showRow(sums[i][c:c+1]))
			}
		}
	}
}

// P13.8: Product is sparse.Times with a matrix of one column.
func TestProductIsTimes(t *testing.T) {
	t.Parallel()
	d := dice(11)
	for range 300 {
		s := d.small(api.ColourColumns, pick(&d, 3, 9, 20))
		m := d.matrix(api.ColourColumns, s)
		var column [][]api.Rat
		var x []api.Rat
		for range s.width {
			x = append(x, d.number())
			column = append(column, x[len(x)-1:])
		}
		b, e := sparse.Sparse(column, 1)
		if e != api.OK {
			t.Fatal(e)
		}
		product, e := sparse.Times(m, b)
		if e != api.OK {
			t.Fatal(e)
		}
		dense, _ := sparse.Dense(product)
		l, e := regain.Product(m, x)
		if e != api.OK || len(l) != len(dense) {
			t.Fatalf("Product: %s, error %d", showRow(l), e)
		}
		for i := range l {
			if !same(l[i], dense[i][0]) {
				t.Fatalf("Product: %s, want %s", showRow(l), showRows(dense))
			}
		}
		wantPlain(t, callOf("Product"), held{m: m, x: x})
	}
}

// P13.1 to P13.8: all calls against plain ones, with matrices, colours and sums at random.
func TestPlainly(t *testing.T) {
	t.Parallel()
	for _, kind := range kinds() {
		t.Run(nameOf(kind), func(t *testing.T) {
			t.Parallel()
			d := dice(12)
			met := map[api.Errno]int{}
			for i := range 800 {
				s := d.small(kind, pick(&d, 2, 4, 8, 14))
				colours := pick(&d, d.colourings(t, kind, s)...)
				if i%5 == 0 {
					for v := range colours {
						colours[v] = d.next(pick(&d, 2, 3, 128))
					}
				}
				h := held{p: s.pattern(), m: d.matrix(kind, s), colours: colours, sums: d.sums(t, i, kind, s, colours)}
				for range s.width {
					h.x = append(h.x, d.number())
				}
				met[wantPlain(t, callOf(nameOf(kind)), h).e]++
				for _, name := range []string{"Seed", "Compress", "CompressRows", "Product"} {
					wantPlain(t, callOf(name), h)
				}
			}
			for _, e := range []api.Errno{api.OK, api.ErrSum, api.ErrColouring} {
				if met[e] < 20 {
					t.Errorf("error %d was met %d times", e, met[e])
				}
			}
		})
	}
}
