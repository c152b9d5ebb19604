package solve_test

import (
	"math/big"
	"testing"

	"slope/api"
)

// everyGrid calls f with each grid of so many rows and columns whose entries are of these numbers, or none.
func everyGrid(rows, width int, of []*big.Rat, f func(g grid)) {
	count := 1
	for range rows * width {
		count *= len(of)
	}
	for n := range count {
		rest := n
		f(gridBy(rows, width, func(_, _ int) *big.Rat {
			v := of[rest%len(of)]
			rest /= len(of)
			return v
		}))
	}
}

// bigs reads numbers; a point is none.
func bigs(s string) []*big.Rat { return gridOf(s).at[0] }

// P16.1 to P16.6: all small matrices against the plain calls, each with some numbers beside it.
func TestSmall(t *testing.T) {
	t.Parallel()
	d := dice(3)
	for _, c := range []struct {
		rows, width int
		of          string
	}{
		{1, 1, ". 0 1 -1 2 1/2"}, {1, 2, ". 0 1 -1 2 1/2"}, {2, 1, ". 0 1 -1 2 1/2"}, {1, 3, ". 0 1 -2"}, {3, 1, ". 0 1 -2"},
		{2, 2, ". 0 1 -1 2 1/2"}, {2, 3, ". 1 -1 2"}, {3, 2, ". 1 -1 2"}, {3, 3, ". 1 -1"}, {2, 4, ". 1 2"}, {4, 2, ". 1 2"},
	} {
		everyGrid(c.rows, c.width, bigs(c.of), func(g grid) {
			wantAll(t, g, d.numbers(c.rows, d.little))
		})
	}
}

// P16.3: all small systems with all small numbers beside them.
func TestSmallSystems(t *testing.T) {
	t.Parallel()
	solved, not := 0, 0
	everyGrid(2, 2, bigs(". 1 -1 2"), func(g grid) {
		everyGrid(1, 2, bigs("0 1 2 -1/3"), func(b grid) {
			h := held{a: g.matrix(), b: ratsOf(b.at[0])}
			if a := wantPlain(t, callOf("Solve"), h, g.text()+" with "+b.text()); a.e == api.OK {
				solved++
			} else {
				not++
			}
		})
	})
	if solved < 1000 || not < 500 {
		t.Errorf("%d were solved, %d not", solved, not)
	}
}

// isFirst tells whether column c is no sum of multiples of those ahead, by all minors: the rank grows by it.
func isFirst(m [][]*big.Rat, c int) bool { return rankByMinors(m, c+1) > rankByMinors(m, c) }

// rankByMinors is the size of the greatest minor among the columns below c that is not 0.
func rankByMinors(m [][]*big.Rat, width int) int {
	most := 0
	for rows := range 1 << len(m) {
		for cols := range 1 << width {
			var z [][]*big.Rat
			for r := range m {
				if rows>>r&1 == 0 {
					continue
				}
				var l []*big.Rat
				for c := range width {
					if cols>>c&1 == 1 {
						l = append(l, m[r][c])
					}
				}
				z = append(z, l)
			}
			if len(z) > most && len(z[0]) == len(z) && expanded(z).Sign() != 0 {
				most = len(z)
			}
		}
	}
	return most
}

// P16.1, P16.2: first columns by all minors, determinants by all orders, on small matrices: nothing is eliminated there.
func TestMinors(t *testing.T) {
	t.Parallel()
	d := dice(5)
	for range 1500 {
		rows, width := d.next(5), d.next(5)
		g := d.grid(rows, width, pick(&d, 40, 70, 100), d.little)
		if d.next(3) == 0 {
			g = d.ofRank(rows, width, d.next(4), d.number)
		}
		m := g.full()
		var want []int
		for c := range width {
			if isFirst(m, c) {
				want = append(want, c)
			}
		}
		h := held{a: g.matrix()}
		if a := callOf("First").do(h); a.text() != (answer{ints: want}).text() {
			t.Fatalf("First of %s: %s, want %v", g.text(), a.text(), want)
		}
		if rows != width {
			continue
		}
		if a := callOf("Determinant").do(h); a.text() != (answer{number: ratOf(expanded(m))}).text() {
			t.Fatalf("Determinant of %s: %s, want %s", g.text(), a.text(), expanded(m).RatString())
		}
	}
}

// P16.1 to P16.6: matrices at random of all shapes and ranks against the plain calls; many of them have several least products.
func TestRandom(t *testing.T) {
	t.Parallel()
	d := dice(11)
	ties, ranks := 0, map[int]int{}
	ends := map[string]int{}
	for i := range 3000 {
		rows, width := 1+d.next(8), 1+d.next(8)
		if i%2 == 0 {
			width = rows
		}
		f := pick(&d, d.number, d.little)
		g := d.grid(rows, width, pick(&d, 10, 30, 50, 80, 100), f)
		if i%3 == 0 {
			g = d.ofRank(rows, width, d.next(min(rows, width)+1), f)
		}
		b := d.numbers(rows, f)
		if i%4 == 0 && width > 0 {
			b = timesCol(g.full(), d.numbers(width, f))
		}
		wantAll(t, g, b)
		p := pivotsOf(g)
		ties += p.ties
		ranks[len(p.pivots)]++
		h := held{a: g.matrix(), b: ratsOf(b)}
		for _, name := range []string{"Solve", "Inverse"} {
			ends[name+endOf(callOf(name).do(h).e)]++
		}
	}
	if ties < 1000 {
		t.Errorf("several least products were met %d times", ties)
	}
	for r := range 9 {
		if ranks[r] < 20 {
			t.Errorf("rank %d was met %d times", r, ranks[r])
		}
	}
	for _, what := range []string{"Solve, answered", "Solve, none", "Inverse, answered", "Inverse, singular"} {
		if ends[what] < 100 {
			t.Errorf("%s: met %d times", what, ends[what])
		}
	}
}

// endOf is an end's name.
func endOf(e api.Errno) string {
	switch e {
	case api.OK:
		return ", answered"
	case api.ErrNone:
		return ", none"
	case api.ErrSingular:
		return ", singular"
	}
	return ", refused"
}
