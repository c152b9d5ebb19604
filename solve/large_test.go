package solve_test

import (
	"fmt"
	"math/big"
	"testing"

	"slope/api"
)

// wholeBits is a whole number of just so many bits, all of them 1, or at random.
func (d *dice) wholeBits(n int) *big.Rat {
	z := d.ofBits(n)
	if d.next(3) == 0 {
		z = new(big.Int).Sub(new(big.Int).Lsh(big.NewInt(1), uint(n)), big.NewInt(1))
	}
	if d.next(2) == 0 {
		z.Neg(z)
	}
	return new(big.Rat).SetInt(z)
}

// ratioBits is a number whose Num and Den have just so many bits.
func (d *dice) ratioBits(num, den int) *big.Rat {
	for {
		z := new(big.Rat).SetFrac(d.ofBits(num), d.ofBits(den))
		if z.Num().BitLen() == num && z.Denom().BitLen() == den {
			return z
		}
	}
}

// wantWeight fails unless a system weighs that much.
func wantWeight(t *testing.T, what string, a api.Matrix, b []api.Rat, want int) {
	t.Helper()
	if w := plainWeight(a, b); w != want {
		t.Fatalf("%s: the test's own weight is %d, want %d", what, w, want)
	}
}

// P16.8, and ErrLarge of P16.1 to P16.6: n rows of n numbers, at MaxSolve just, and one above it.
func TestEdgeOfLarge(t *testing.T) {
	t.Parallel()
	d := dice(47)
	for _, n := range []int{1, 2, 3, 4, 6} {
		for _, kind := range []string{"whole", "all ones", "dens", "one den", "half"} {
			for _, more := range []int{0, 1} {
				what := fmt.Sprint(n, " rows, ", kind, ", ", more, " more")
				g := d.heavy(n, kind, more)
				m := g.matrix()
				wantWeight(t, what, m, nil, api.MaxSolve+more)
				for _, c := range matrixCalls() {
					h := held{a: m}
					for range n {
						h.b = append(h.b, num("0"))
					}
					a := wantPlain(t, c, h, what)
					if isLarge := a.e == api.ErrLarge; isLarge != (more == 1) {
						t.Fatalf("%s: %s: error %d", what, c.name, a.e)
					}
				}
			}
		}
	}
}

// heavy is a full grid of n rows that weighs MaxSolve and more; kind tells where the bits are.
func (d *dice) heavy(n int, kind string, more int) grid {
	return gridBy(n, n, byRows(n, func(r int) []*big.Rat {
		// What is left of the row's share behind the bits of b's Den and the 7.
		share := api.MaxSolve/n - 8
		if r == 0 {
			share += api.MaxSolve%n + more
		}
		l := make([]*big.Rat, n)
		switch kind {
		case "whole":
			for c := range l {
				l[c] = d.wholeBits(share - n)
			}
		case "all ones":
			for c := range l {
				l[c] = twoTo(share-n, -1)
				if r&c&1 == 1 {
					l[c].Neg(l[c])
				}
			}
		case "dens":
			each := (share - 1) / n
			for c := range l {
				l[c] = over(d.wholeBits(each))
			}
			l[0] = over(d.wholeBits(share - 1 - (n-1)*each))
		case "one den":
			for c := range l {
				l[c] = big.NewRat(1, 1)
			}
			l[r] = over(d.wholeBits(share - n))
		case "half":
			each := share / (2 * n)
			for c := range l {
				l[c] = d.ratioBits(each, each)
			}
			l[0] = d.ratioBits(share-n*each, each)
		}
		return l
	}))
}

// byRows tells the entries of rows that are made one after the other.
func byRows(n int, row func(r int) []*big.Rat) func(r, c int) *big.Rat {
	var rows [][]*big.Rat
	for r := range n {
		rows = append(rows, row(r))
	}
	return func(r, c int) *big.Rat { return rows[r][c] }
}

// P16.3, P16.8: the numbers beside a matrix weigh too: at MaxSolve just, and one above it.
func TestEdgeBeside(t *testing.T) {
	t.Parallel()
	d := dice(53)
	for _, n := range []int{1, 2, 3, 5} {
		for _, kind := range []string{"num", "den"} {
			for _, more := range []int{0, 1} {
				what := fmt.Sprint(n, " rows, ", kind, ", ", more, " more")
				g := gridBy(n, n, func(_, _ int) *big.Rat { return d.wholeBits(300) })
				var b []*big.Rat
				for r := range n {
					share := api.MaxSolve/n - 7 - n
					if r == 0 {
						share += api.MaxSolve%n + more
					}
					if kind == "num" {
						b = append(b, d.wholeBits(share-1))
					} else {
						b = append(b, over(d.wholeBits(share-300)))
					}
				}
				wantWeight(t, what, g.matrix(), ratsOf(b), api.MaxSolve+more)
				a := wantPlain(t, callOf("Solve"), held{a: g.matrix(), b: ratsOf(b)}, what)
				if isLarge := a.e == api.ErrLarge; isLarge != (more == 1) {
					t.Fatalf("%s: error %d", what, a.e)
				}
				// The others know of no b.
				wantPlain(t, callOf("Determinant"), held{a: g.matrix()}, what)
			}
		}
	}
}

// Weights of each part: of rows without entries, of entries that are 0, of Dens that are added up and Nums of which the greatest counts.
func TestWeights(t *testing.T) {
	t.Parallel()
	for _, c := range []struct {
		m, b string
		want int
	}{
		{"", "", 0}, {".", "0", 8}, {"0", "0", 9}, {"1", "0", 10}, {"1", "1", 10}, {"1/2", "1/2", 12}, {"7/2 3/4", "5", 2 + 3 + 1 + 3 + 7},
		{"-7/2 0 3/4,. . 1", "-255/256 0", 2 + 1 + 3 + 9 + 8 + 7 + 1 + 1 + 1 + 7},
	} {
		wantWeight(t, c.m, mat(c.m), nums(c.b), c.want)
		// One row more, that weighs the rest up to MaxSolve.
		for _, more := range []int{0, 1} {
			g := gridOf(c.m)
			if g.width == 0 {
				g.width = 1
			}
			last := make([]*big.Rat, g.width)
			last[0] = twoTo(api.MaxSolve-c.want-10+more, 0)
			g.at = append(g.at, last)
			b := append(nums(c.b), num("1"))
			wantWeight(t, c.m, g.matrix(), b, api.MaxSolve+more)
			a := wantPlain(t, callOf("Solve"), held{a: g.matrix(), b: b}, c.m)
			if isLarge := a.e == api.ErrLarge; isLarge != (more == 1) {
				t.Errorf("%s: error %d", c.m, a.e)
			}
		}
	}
}

// heavyRow is a row of so many numbers, and the one beside it, that weighs a little less than its share.
func (d *dice) heavyRow(width, share int) ([]*big.Rat, *big.Rat) {
	room := share - 9 - width
	f := pick(d,
		func() *big.Rat { return d.wholeBits(room) },
		func() *big.Rat { return over(d.wholeBits(room / (width + 1))) },
		func() *big.Rat { return d.ratioBits(room/2, room/(2*(width+1))) })
	l := d.numbers(width, f)
	if width > 1 && d.next(3) == 0 {
		l[d.next(width)] = nil
	}
	return l, f()
}

// P16.8: systems near the bound of all shapes and ranks: no number on the way is refused.
func TestNearBounds(t *testing.T) {
	t.Parallel()
	d := dice(59)
	most := 0
	for i := range 60 {
		rows, width := 1+d.next(5), 1+d.next(5)
		g, b := grid{width: width}, []*big.Rat{}
		for range rows {
			l, v := d.heavyRow(width, api.MaxSolve/rows)
			g.at, b = append(g.at, l), append(b, v)
		}
		if i%2 == 0 {
			g = d.dependent(rows, width, api.MaxSolve/rows)
		}
		h := held{a: g.matrix(), b: ratsOf(b)}
		if plainWeight(h.a, h.b) > api.MaxSolve {
			h.b = ratsOf(d.numbers(rows, d.little))
		}
		for _, c := range matrixCalls() {
			a := wantPlain(t, c, h, fmt.Sprint(rows, " by ", width))
			if a.e == api.ErrLarge {
				t.Fatalf("%d by %d: %s: large", rows, width, c.name)
			}
			for _, r := range a.numbers() {
				most = max(most, bits(r.Num), bits(r.Den))
			}
		}
	}
	if most < 32000 || most > 2*api.MaxSolve {
		t.Errorf("the greatest number has %d bits", most)
	}
}

// dependent is a grid of heavy rows, of which the last one is a sum of little multiples of the others.
func (d *dice) dependent(rows, width, share int) grid {
	g := gridBy(rows, width, func(_, _ int) *big.Rat { return d.wholeBits(share - 15 - width) })
	for c := range width {
		sum := new(big.Rat)
		for r := range rows - 1 {
			sum.Add(sum, new(big.Rat).Mul(big.NewRat(int64(r+1), 1), g.at[r][c]))
		}
		g.at[rows-1][c] = sum
	}
	return g
}

// P16.3, P16.8: certificates of heavy systems, with great Dens in every row.
func TestHeavyCertificates(t *testing.T) {
	t.Parallel()
	d := dice(61)
	most := 0
	for range 40 {
		rows, width := 2+d.next(4), 1+d.next(3)
		k := d.next(min(rows-1, width)) + 1
		share := api.MaxSolve/rows - 30
		den := share / (4 * (width + 1))
		// Rank k at most: products of two numbers, in each row over a Den of its own.
		g := d.ofRank(rows, width, k, func() *big.Rat { return d.wholeBits(share / 3) })
		for r := range g.at {
			by := over(d.wholeBits(den))
			for c, v := range g.at[r] {
				if v != nil {
					g.at[r][c] = new(big.Rat).Mul(v, by)
				}
			}
		}
		h := held{a: g.matrix(), b: ratsOf(d.numbers(rows, func() *big.Rat { return d.ratioBits(share/2, den) }))}
		a := wantPlain(t, callOf("Solve"), h, fmt.Sprint(rows, " by ", width))
		if a.e != api.ErrNone {
			t.Errorf("%d by %d of rank %d: error %d", rows, width, k, a.e)
		}
		for _, r := range a.proof {
			most = max(most, bits(r.Num), bits(r.Den))
		}
	}
	if most < 8000 {
		t.Errorf("the greatest number has %d bits", most)
	}
}
