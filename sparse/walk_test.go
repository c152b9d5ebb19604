package sparse_test

import (
	"fmt"
	"slices"
	"testing"

	"slope/api"
	"slope/sparse"
)

// squareCalls are the calls on square patterns.
func squareCalls() []call {
	var z []call
	for _, c := range allCalls() {
		if slices.Contains([]string{"Symmetric", "Close", "Graph", "Components", "Blocks"}, c.name) {
			z = append(z, c)
		}
	}
	return z
}

// P9.5, P9.7, P9.8: all square patterns of up to three vertices, and those of four without the place (0, 0).
func TestAllSmallSquares(t *testing.T) {
	t.Parallel()
	calls := squareCalls()
	if len(calls) != 5 {
		t.Fatal("a call is missing")
	}
	for n := range 5 {
		for bits := 0; bits < 1<<(n*n); bits += 1 + n/4 {
			h := held{p: mark(n, n, func(r, c int) bool { return bits>>(r*n+c)&1 == 1 }).pattern()}
			for _, c := range calls {
				if got, want := c.do(h).text(), c.want(h).text(); got != want {
					t.Fatalf("%s of %s: %s, want %s", c.name, showPattern(h.p), got, want)
				}
			}
		}
	}
}

// P9.7, P9.8: greater patterns at random, few and many blocks.
func TestSquares(t *testing.T) {
	d := dice(4)
	blocks := map[string]int{}
	for range 1500 {
		n := 5 + d.next(12)
		full := pick(&d, 1, 2, 3, 4, 8, 20)
		to := d.order(n)
		upwards := d.next(2) == 0 // mostly single blocks
		h := held{p: mark(n, n, func(r, c int) bool {
			return d.next(4*n) < full && (!upwards || to[r] <= to[c] || d.next(20) == 0)
		}).pattern()}
		for _, c := range squareCalls() {
			if got, want := c.do(h).text(), c.want(h).text(); got != want {
				t.Fatalf("%s of %s: %s, want %s", c.name, showPattern(h.p), got, want)
			}
		}
		l, _ := sparse.Blocks(h.p)
		switch slices.Max(l) + 1 {
		case 1:
			blocks["one"]++
		case n:
			blocks["all single"]++
		default:
			blocks["some"]++
		}
	}
	for _, name := range []string{"one", "all single", "some"} {
		if blocks[name] < 50 {
			t.Errorf("%s: %d times", name, blocks[name])
		}
	}
}

// P9.8: which block comes next.
func TestBlocks(t *testing.T) {
	for _, c := range []struct {
		n            int
		places, want string
	}{
		{0, "", ""},
		{1, "", "0"},
		{1, "0,0", "0"},
		{3, "", "0 1 2"},
		{3, "0,0 1,1 2,2", "0 1 2"},
		{3, "0,1 1,2 2,0", "0 0 0"},
		{3, "0,1 1,2", "2 1 0"},
		{3, "2,1 1,0", "0 1 2"},
		// 1, 2 and 3 may come first at the same time, 0 waits for 2 alone, and is the lowest then.
		{4, "0,2", "2 0 1 3"},
		{4, "0,3", "3 0 1 2"},
		{4, "0,1", "1 0 2 3"},
		// {0, 3} has the lowest vertex, though 3 is not the lowest of those that are left.
		{4, "0,3 3,0 1,1", "0 1 2 0"},
		{4, "0,3 3,0 3,2", "2 0 1 2"},
		{5, "1,4 4,1 2,3 3,2 4,2", "0 2 1 1 2"},
		// A way in both directions by a long way round, met from outside first.
		{6, "0,3 3,5 5,4 4,3 4,1 1,2 2,1", "2 0 0 1 1 1"},
		{6, "5,0 0,5 4,0 3,4 4,3 2,3", "0 1 3 2 2 0"},
	} {
		l, e := sparse.Blocks(pat(c.n, c.n, c.places))
		wantInts(t, "Blocks of "+c.places, l, e, c.want)
	}
}

// P9.7: one component, as many as there are vertices, and in between.
func TestComponents(t *testing.T) {
	for _, c := range []struct {
		n            int
		places, want string
	}{
		{0, "", ""},
		{1, "", "0"},
		{1, "0,0", "0"},
		{4, "", "0 1 2 3"},
		{4, "1,1 3,3", "0 1 2 3"},
		{4, "3,0 2,1", "0 1 1 0"},
		{4, "0,3 1,3 2,3", "0 0 0 0"},
		{4, "3,0 3,1 3,2", "0 0 0 0"},
		{5, "4,2 1,3", "0 1 2 1 2"},
		{6, "5,0 4,1 3,2 1,2", "0 1 1 1 1 0"},
	} {
		l, e := sparse.Components(pat(c.n, c.n, c.places))
		wantInts(t, "Components of "+c.places, l, e, c.want)
	}
}

// P9.7, P9.8, DOC.md's P1: the greatest patterns: chains both ways, a ring, none, all; numbers by hand.
func TestGreatSquares(t *testing.T) {
	const n = api.MaxSide
	rising, falling, zeros := make([]int, n), make([]int, n), make([]int, n)
	for i := range n {
		rising[i], falling[i] = i, n-1-i
	}
	for _, c := range []struct {
		name               string
		has                func(r, c int) bool
		components, blocks []int
	}{
		{"none", func(r, c int) bool { return false }, rising, rising},
		{"the diagonal", func(r, c int) bool { return r == c }, rising, rising},
		{"all", func(r, c int) bool { return true }, zeros, zeros},
		{"upwards", func(r, c int) bool { return c == r+1 }, zeros, falling},
		{"downwards", func(r, c int) bool { return c == r-1 }, zeros, rising},
		{"a ring", func(r, c int) bool { return c == (r+1)%n }, zeros, zeros},
		{"all above", func(r, c int) bool { return c > r }, zeros, falling},
		{"all above and on the diagonal", func(r, c int) bool { return c >= r }, zeros, falling},
	} {
		p := mark(n, n, c.has).pattern()
		l, e := sparse.Components(p)
		wantInts(t, "Components of "+c.name, l, e, fmt.Sprint(c.components)[1:len(fmt.Sprint(c.components))-1])
		l, e = sparse.Blocks(p)
		wantInts(t, "Blocks of "+c.name, l, e, fmt.Sprint(c.blocks)[1:len(fmt.Sprint(c.blocks))-1])
	}
}

// P9.8's own words: every place has its row's number at least as great as its column's, and numbers are 0 and on without a gap.
func TestBlocksRise(t *testing.T) {
	d := dice(5)
	for range 40 {
		n := 100 + d.next(29)
		full := pick(&d, 1, 2, 3, 6)
		p := mark(n, n, func(r, c int) bool { return d.next(2*n) < full }).pattern()
		l, e := sparse.Blocks(p)
		if e != api.OK || len(l) != n {
			t.Fatalf("Blocks: %d numbers, error %d", len(l), e)
		}
		rs, cs, _ := sparse.Places(p)
		for i := range rs {
			if l[rs[i]] < l[cs[i]] {
				t.Fatalf("a place leads from block %d to block %d", l[rs[i]], l[cs[i]])
			}
		}
		count := slices.Max(l) + 1
		for i := range count {
			if !slices.Contains(l, i) {
				t.Fatalf("no block %d of %d", i, count)
			}
		}
	}
}
