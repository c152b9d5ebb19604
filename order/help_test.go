package order_test

import (
	"fmt"
	"slices"

	"slope/api"
)

// dice throws numbers that are the same in every run.
type dice uint64

func (d *dice) next(n int) int {
	*d = *d*6364136223846793005 + 1442695040888963407
	return int(uint32(*d>>32)) % n
}

// pick is one of a list.
func pick[T any](d *dice, l ...T) T { return l[d.next(len(l))] }

// shuffled is an order of n vertices at random.
func (d *dice) shuffled(n int) []int {
	l := upTo(n)
	for i := range l {
		k := i + d.next(n-i)
		l[i], l[k] = l[k], l[i]
	}
	return l
}

// upTo is 0, 1, 2, .. of n numbers.
func upTo(n int) []int {
	var l []int
	for i := range n {
		l = append(l, i)
	}
	return l
}

// short is the beginning of a long message.
func short(s string) string {
	if len(s) > 500 {
		return s[:500] + fmt.Sprintf(".. (%d bytes)", len(s))
	}
	return s
}

// sheet tells of each two vertices whether they are neighbours.
type sheet [][]bool

// blank is a sheet without any.
func blank(n int) sheet {
	s := make(sheet, n)
	for v := range s {
		s[v] = make([]bool, n)
	}
	return s
}

// joined is a sheet of the edges that f tells, of vertices u below v.
func joined(n int, f func(u, v int) bool) sheet {
	s := blank(n)
	for v := range n {
		for u := range v {
			s[u][v] = f(u, v)
			s[v][u] = s[u][v]
		}
	}
	return s
}

// of is a sheet of such edges, told one by one.
func of(n int, edges ...[2]int) sheet {
	return joined(n, func(u, v int) bool {
		return slices.Contains(edges, [2]int{u, v}) || slices.Contains(edges, [2]int{v, u})
	})
}

// pattern is a sheet's.
func (s sheet) pattern() api.Pattern {
	p := api.Pattern{Rows: len(s), Width: len(s), Start: []int{0}}
	for v := range s {
		for u := range s {
			if s[v][u] {
				p.Cols = append(p.Cols, u)
			}
		}
		p.Start = append(p.Start, len(p.Cols))
	}
	return p
}

// degree is how many neighbours a vertex has among those that f tells.
func (s sheet) degree(v int, f func(u int) bool) int {
	n := 0
	for u := range s {
		if s[v][u] && f(u) {
			n++
		}
	}
	return n
}

// edges is how many there are.
func (s sheet) edges() int {
	n := 0
	for v := range s {
		n += s.degree(v, func(u int) bool { return u < v })
	}
	return n
}

// renamed is the sheet whose vertex i is this one's to[i].
func (s sheet) renamed(to []int) sheet {
	return joined(len(s), func(u, v int) bool { return s[to[u]][to[v]] })
}

// example is the chapter's: a triangle 1, 2, 3 and the tail 0.
func example() sheet { return of(4, [2]int{0, 1}, [2]int{1, 2}, [2]int{2, 3}, [2]int{1, 3}) }

// graphs are graphs of every kind of so many vertices, by names.
func (d *dice) graphs(n int) map[string]sheet {
	with := func(f func(u, v int) bool) sheet { return joined(n, f) }
	chance := func(per int) sheet { return with(func(_, _ int) bool { return d.next(100) < per }) }
	above := make([]int, n)
	for v := 1; v < n; v++ {
		above[v] = d.next(v)
	}
	z := map[string]sheet{
		"no edges":         blank(n),
		"all edges":        with(func(_, _ int) bool { return true }),
		"a path":           with(func(u, v int) bool { return v == u+1 }),
		"a circle":         with(func(u, v int) bool { return v == u+1 || u == 0 && v == n-1 && n > 2 }),
		"a star about 0":   with(func(u, _ int) bool { return u == 0 }),
		"a star about n-1": with(func(_, v int) bool { return v == n-1 }),
		"two sides":        with(func(u, v int) bool { return u < n/3 && v >= n/3 }),
		"pairs":            with(func(u, v int) bool { return u%2 == 0 && v == u+1 }),
		"triangles":        with(func(u, v int) bool { return u/3 == v/3 }),
		"parts of all sizes": with(func(u, v int) bool {
			root := func(k int) int {
				r := 0
				for (r+1)*(r+1) <= k {
					r++
				}
				return r
			}
			return root(u) == root(v)
		}),
		"a grid":           with(func(u, v int) bool { return v == u+8 || v == u+1 && v%8 > 0 }),
		"a strip":          with(func(u, v int) bool { return v-u <= 3 }),
		"two lengths":      with(func(u, v int) bool { return (v-u)%n == 2 || (v-u)%n == n-2 || v-u == 5 }),
		"a core with tail": with(func(u, v int) bool { return v < n/2 || v == u+1 }),
		"a late core":      with(func(u, v int) bool { return u >= n/2 || v == u+1 }),
		"thresholds":       with(func(u, v int) bool { return u+v < n }),
		"a tree":           with(func(u, v int) bool { return above[v] == u }),
		"one lonely":       with(func(u, v int) bool { return u != n/2 && v != n/2 }),
		"all but pairs":    with(func(u, v int) bool { return u%2 > 0 || v != u+1 }),
	}
	for _, per := range []int{1, 3, 10, 30, 50, 80, 97} {
		z[fmt.Sprint("at random, ", per)] = chance(per)
	}
	for name, s := range z {
		if len(name)%3 == 0 && n > 0 {
			z[name] = s.renamed((*dice).shuffled(new(dice(len(name))), n))
		}
	}
	return z
}

// small is a graph at random of at most that many vertices.
func (d *dice) small(most int) sheet {
	n := d.next(most + 1)
	per := pick(d, 0, 5, 20, 40, 60, 80, 95, 100)
	s := joined(n, func(_, _ int) bool { return d.next(100) < per })
	if n > 0 && d.next(4) == 0 {
		// somebody without neighbours
		v := d.next(n)
		return joined(n, func(a, b int) bool { return s[a][b] && a != v && b != v })
	}
	return s
}

// allGraphs calls f with each graph of n vertices.
func allGraphs(n int, f func(s sheet)) {
	for bits := range 1 << (n * (n - 1) / 2) {
		k := bits
		f(joined(n, func(_, _ int) bool {
			yes := k&1 > 0
			k >>= 1
			return yes
		}))
	}
}

// allOrders calls f with each order of n vertices.
func allOrders(n int, f func(l []int)) {
	var more func(l []int)
	more = func(l []int) {
		if len(l) == n {
			f(l)
			return
		}
		for v := range n {
			if !slices.Contains(l, v) {
				more(append(l[:len(l):len(l)], v))
			}
		}
	}
	more(nil)
}

// allLists calls f with each list of at most that many numbers from low to high.
func allLists(most, low, high int, f func(l []int)) {
	var more func(l []int)
	more = func(l []int) {
		f(l)
		if len(l) == most {
			return
		}
		for n := low; n <= high; n++ {
			more(append(l[:len(l):len(l)], n))
		}
	}
	more(nil)
}

// allKinds are the five.
func allKinds() []api.OrderKind {
	return []api.OrderKind{api.OrderNatural, api.OrderLargest, api.OrderSmallest, api.OrderIncidence, api.OrderScript}
}
