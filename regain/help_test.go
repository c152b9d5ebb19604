package regain_test

import (
	"fmt"
	"iter"
	"maps"
	"math/big"
	"slices"
	"strings"
	"testing"

	"slope/api"
	"slope/colour"
	"slope/natural"
	"slope/rational"
	"slope/sparse"
)

// dice throws numbers that are the same in every run.
type dice uint64

func (d *dice) next(n int) int {
	*d = *d*6364136223846793005 + 1442695040888963407
	return int(uint32(*d>>32)) % n
}

// pick is one of a list.
func pick[T any](d *dice, l ...T) T { return l[d.next(len(l))] }

// shuffled is an order of n things at random.
func (d *dice) shuffled(n int) []int {
	l := upTo(n)
	for i := range l {
		k := i + d.next(n-i)
		l[i], l[k] = l[k], l[i]
	}
	return l
}

// upTo is 0, 1, 2, .. of n numbers.
func upTo(n int) []int {
	var l []int
	for i := range n {
		l = append(l, i)
	}
	return l
}

// short is the beginning of a long message.
func short(s string) string {
	if len(s) > 600 {
		return s[:600] + fmt.Sprintf(".. (%d bytes)", len(s))
	}
	return s
}

// num reads a number.
func num(s string) api.Rat {
	r, _, e := rational.Parse(s)
	if e != api.OK {
		panic(s)
	}
	return r
}

// nums reads numbers that blanks stand between.
func nums(s string) []api.Rat {
	var l []api.Rat
	for _, word := range strings.Fields(s) {
		l = append(l, num(word))
	}
	return l
}

// rows reads rows of numbers that commas stand between.
func rows(s string) [][]api.Rat {
	var l [][]api.Rat
	for _, r := range strings.Split(s, ",") {
		l = append(l, nums(r))
	}
	return l
}

// ints reads whole numbers that blanks stand between.
func ints(s string) []int {
	var l []int
	for _, r := range nums(s) {
		n, _ := rational.Int(r)
		l = append(l, n)
	}
	return l
}

// showRow is numbers for messages.
func showRow(l []api.Rat) string {
	var z []string
	for _, r := range l {
		s := fmt.Sprintf("%v %x/%x", r.Neg, []uint32(r.Num), []uint32(r.Den))
		if rational.May(r) {
			s = bigOf(r).RatString()
		}
		z = append(z, short(s))
	}
	return strings.Join(z, " ")
}

// showRows is rows for messages.
func showRows(l [][]api.Rat) string {
	var z []string
	for _, r := range l {
		z = append(z, showRow(r))
	}
	return strings.Join(z, ", ")
}

// bigOf is a number in the library's form.
func bigOf(r api.Rat) *big.Rat {
	z := new(big.Rat).SetFrac(bigNat(r.Num), bigNat(r.Den))
	if r.Neg {
		z.Neg(z)
	}
	return z
}

// bigNat is a natural in the library's form.
func bigNat(n api.Nat) *big.Int {
	b := make([]byte, 4*len(n))
	for i, limb := range n {
		for j := range 4 {
			b[len(b)-1-4*i-j] = byte(limb >> (8 * j))
		}
	}
	return new(big.Int).SetBytes(b)
}

// ratOf is one of the library's numbers.
func ratOf(r *big.Rat) api.Rat {
	nat := func(n *big.Int) api.Nat {
		var z api.Nat
		b := n.Bytes()
		for i := range b {
			if i%4 == 0 {
				z = append(z, 0)
			}
			z[i/4] |= uint32(b[len(b)-1-i]) << (8 * (i % 4))
		}
		return z
	}
	return api.Rat{Neg: r.Sign() < 0, Num: nat(r.Num()), Den: nat(r.Denom())}
}

// ratRows are the library's numbers, row by row.
func ratRows(l [][]*big.Rat) [][]api.Rat {
	z := make([][]api.Rat, len(l))
	for i, row := range l {
		for _, r := range row {
			z[i] = append(z[i], ratOf(r))
		}
	}
	return z
}

// twoTo is 2^n + more.
func twoTo(n uint, more int64) api.Rat {
	z := new(big.Int).Lsh(big.NewInt(1), n)
	return ratOf(new(big.Rat).SetInt(z.Add(z, big.NewInt(more))))
}

// minus is a number with the other sign; not of 0.
func minus(r api.Rat) api.Rat {
	r.Neg = !r.Neg
	return r
}

// under is 1 over a number above 0.
func under(r api.Rat) api.Rat {
	r.Num, r.Den = r.Den, r.Num
	return r
}

// number is one at random, at times 0.
func (d *dice) number() api.Rat {
	if d.next(12) == 0 {
		return num("-18446744073709551617/6")
	}
	n := d.next(12)
	if d.next(5) == 0 {
		n = d.next(100000)
	}
	r, _ := rational.Make(d.next(2) == 0, natural.From(uint64(n)), natural.From(uint64(pick(d, 1, 1, 2, 3, 13))))
	return r
}

// other is another number than that.
func (d *dice) other(r api.Rat) api.Rat {
	for {
		if n := d.number(); !same(n, r) {
			return n
		}
	}
}

// sheet tells of each row and column whether there is a place.
type sheet struct {
	rows, width int
	has         [][]bool
}

// where is the sheet of the places that f tells.
func where(rows, width int, f func(r, c int) bool) sheet {
	s := sheet{rows: rows, width: width}
	for r := range rows {
		s.has = append(s.has, make([]bool, width))
		for c := range width {
			s.has[r][c] = f(r, c)
		}
	}
	return s
}

// joined is a symmetric sheet of the edges that f tells, of vertices u below v, and of the diagonal, u and u.
func joined(n int, f func(u, v int) bool) sheet {
	s := where(n, n, func(_, _ int) bool { return false })
	for v := range n {
		for u := range v + 1 {
			s.has[u][v] = f(u, v)
			s.has[v][u] = s.has[u][v]
		}
	}
	return s
}

// pattern is a sheet's.
func (s sheet) pattern() api.Pattern {
	p := api.Pattern{Rows: s.rows, Width: s.width, Start: []int{0}}
	for r := range s.rows {
		for c := range s.width {
			if s.has[r][c] {
				p.Cols = append(p.Cols, c)
			}
		}
		p.Start = append(p.Start, len(p.Cols))
	}
	return p
}

// turned is the sheet with rows and columns exchanged.
func (s sheet) turned() sheet {
	return where(s.width, s.rows, func(r, c int) bool { return s.has[c][r] })
}

// isSymmetric tells whether a sheet is.
func (s sheet) isSymmetric() bool {
	if s.rows != s.width {
		return false
	}
	for u := range s.rows {
		for v := range s.rows {
			if s.has[u][v] != s.has[v][u] {
				return false
			}
		}
	}
	return true
}

// permuted is a symmetric sheet whose vertices have other numbers.
func (s sheet) permuted(l []int) sheet {
	return where(s.rows, s.rows, func(r, c int) bool { return s.has[l[r]][l[c]] })
}

// things is how many a kind colours there.
func (s sheet) things(kind api.ColourKind) int {
	if kind == api.ColourRows {
		return s.rows
	}
	return s.width
}

// matrix is one on the sheet with numbers at random, symmetric if the kind asks for it.
func (d *dice) matrix(kind api.ColourKind, s sheet) api.Matrix {
	t := tableOf(s)
	for r := range s.rows {
		for c := range s.width {
			if s.has[r][c] {
				t.at[r][c] = bigOf(d.number())
				if isOfGraphs(kind) && c < r {
					t.at[r][c] = t.at[c][r]
				}
			}
		}
	}
	return t.matrix()
}

// inOrder goes through sheets by their names, so that dice fall alike in every run.
func inOrder(z map[string]sheet) iter.Seq2[string, sheet] {
	return func(yield func(string, sheet) bool) {
		for _, name := range slices.Sorted(maps.Keys(z)) {
			if !yield(name, z[name]) {
				return
			}
		}
	}
}

// graphs are symmetric sheets of every sort of so many vertices, by names; diagonals with all, no and some places.
func (d *dice) graphs(n int) iter.Seq2[string, sheet] {
	diagonal := 0
	with := func(f func(u, v int) bool) sheet {
		diagonal++
		kind := diagonal
		return joined(n, func(u, v int) bool {
			if u == v {
				return kind%3 == 0 || kind%3 == 1 && u%2 == 0
			}
			return f(u, v)
		})
	}
	above := make([]int, n)
	for v := 1; v < n; v++ {
		above[v] = d.next(v)
	}
	z := map[string]sheet{
		"no edges":         with(func(_, _ int) bool { return false }),
		"all edges":        with(func(_, _ int) bool { return true }),
		"a path":           with(func(u, v int) bool { return v == u+1 }),
		"a circle":         with(func(u, v int) bool { return v == u+1 || v == u+n-1 }),
		"a star about 0":   with(func(u, _ int) bool { return u == 0 }),
		"a star about n-1": with(func(_, v int) bool { return v == n-1 }),
		"two stars":        with(func(u, v int) bool { return u == 0 && v%2 == 1 || u == 1 && v%2 == 0 }),
		"two sides":        with(func(u, v int) bool { return u < n/3 && v >= n/3 }),
		"pairs":            with(func(u, v int) bool { return u%2 == 0 && v == u+1 }),
		"triangles":        with(func(u, v int) bool { return u/3 == v/3 }),
		"circles of five":  with(func(u, v int) bool { return u/5 == v/5 && (v == u+1 || v == u+4) }),
		"a grid":           with(func(u, v int) bool { return v == u+8 || v == u+1 && v%8 > 0 }),
		"a strip":          with(func(u, v int) bool { return v-u <= 3 }),
		"a wheel":          with(func(u, v int) bool { return u == 0 || v == u+1 || u == 1 && v == n-1 }),
		"a tree":           with(func(u, v int) bool { return above[v] == u }),
		"a tree by halves": with(func(u, v int) bool { return u == (v-1)/2 }),
		"a caterpillar":    with(func(u, v int) bool { return v == u+2 && u%2 == 0 || v == u+1 && u%2 == 0 }),
		"one lonely":       with(func(u, v int) bool { return u != n/2 && v != n/2 }),
	}
	for _, per := range []int{1, 3, 10, 30, 60} {
		z[fmt.Sprint("at random, ", per)] = with(func(_, _ int) bool { return d.next(100) < per })
	}
	for name, s := range z {
		if len(name)%2 == 0 && n > 0 {
			z[name+", mixed"] = s.permuted((*dice).shuffled(new(dice(len(name))), n))
		}
	}
	return inOrder(z)
}

// patterns are sheets of every sort of so many rows and columns, by names.
func (d *dice) patterns(rows, width int) iter.Seq2[string, sheet] {
	with := func(f func(r, c int) bool) sheet { return where(rows, width, f) }
	z := map[string]sheet{
		"no places":     with(func(_, _ int) bool { return false }),
		"all places":    with(func(_, _ int) bool { return true }),
		"a diagonal":    with(func(r, c int) bool { return r == c }),
		"two diagonals": with(func(r, c int) bool { return r == c || c == r+1 }),
		"a band":        with(func(r, c int) bool { return r-2 <= c && c <= r+2 }),
		"an arrow":      with(func(r, c int) bool { return r == 0 || c == 0 || r == c }),
		"the last row":  with(func(r, _ int) bool { return r == rows-1 }),
		"first column":  with(func(_, c int) bool { return c == 0 }),
		"blocks":        with(func(r, c int) bool { return r/3 == c/3 }),
		"a chequer":     with(func(r, c int) bool { return (r+c)%2 == 0 }),
		"every third":   with(func(r, c int) bool { return r%3 > 0 && c%3 > 0 }),
	}
	for _, per := range []int{1, 3, 10, 30} {
		z[fmt.Sprint("at random, ", per)] = with(func(_, _ int) bool { return d.next(100) < per })
	}
	return inOrder(z)
}

// sorts are what a kind is asked of, with n things: symmetric sheets, or sheets of several shapes.
func (d *dice) sorts(kind api.ColourKind, n int) iter.Seq2[string, sheet] {
	if isOfGraphs(kind) {
		return d.graphs(n)
	}
	z := map[string]sheet{}
	others := []int{0, 1, n / 2, n, 2 * n}
	if n >= 64 {
		others = []int{1, api.MaxSide}
	}
	for _, other := range others {
		for name, s := range d.patterns(other, n) {
			if kind == api.ColourRows {
				s = s.turned()
			}
			z[fmt.Sprint(name, ", other side ", other)] = s
		}
	}
	return inOrder(z)
}

// small is what a kind can be asked of, at random, with at most so many things.
func (d *dice) small(kind api.ColourKind, most int) sheet {
	n := d.next(most + 1)
	per := pick(d, 0, 5, 20, 30, 40, 60, 80, 100)
	diagonal := pick(d, 0, 50, 100)
	if !isOfGraphs(kind) {
		return where(d.next(most+1), n, func(_, _ int) bool { return d.next(100) < per })
	}
	return joined(n, func(u, v int) bool {
		if u == v {
			return d.next(100) < diagonal
		}
		return d.next(100) < per
	})
}

// kinds are those that matrices are regained by.
func kinds() []api.ColourKind {
	return []api.ColourKind{api.ColourColumns, api.ColourRows, api.ColourStar, api.ColourAcyclic}
}

// isOfGraphs tells whether a kind asks for symmetric matrices.
func isOfGraphs(kind api.ColourKind) bool { return kind == api.ColourStar || kind == api.ColourAcyclic }

// nameOf is the call that regains a kind.
func nameOf(kind api.ColourKind) string {
	switch kind {
	case api.ColourColumns:
		return "Columns"
	case api.ColourRows:
		return "Rows"
	case api.ColourStar:
		return "Star"
	}
	return "Acyclic"
}

// greedy are greedy's colours of a kind in an order at random.
func (d *dice) greedy(t *testing.T, kind api.ColourKind, s sheet) []int {
	t.Helper()
	p := s.pattern()
	if isOfGraphs(kind) {
		p, _ = sparse.Graph(p)
	}
	l, _, e := colour.Greedy(kind, p, d.shuffled(s.things(kind)))
	if e != api.OK {
		t.Fatalf("Greedy of kind %d: error %d", kind, e)
	}
	return l
}

// split gives some of the things colours of their own: what is of a kind stays so.
func (d *dice) split(colours []int) []int {
	l := slices.Clone(colours)
	for v := range l {
		if fresh := plainCount(l); fresh < api.MaxSide && d.next(4) == 0 {
			l[v] = fresh
		}
	}
	return l
}

// renamed are the colours by other names, one for one, that leave some out, up to the greatest that may be.
func (d *dice) renamed(colours []int) []int {
	names := d.shuffled(api.MaxSide)
	l := make([]int, len(colours))
	for v, c := range colours {
		l[v] = names[c]
	}
	return l
}

// colourings are several of a kind: greedy's, finer ones, some by other names, one with a colour for each thing.
func (d *dice) colourings(t *testing.T, kind api.ColourKind, s sheet) [][]int {
	t.Helper()
	first := d.greedy(t, kind, s)
	second := d.greedy(t, kind, s)
	return [][]int{first, second, d.split(first), d.renamed(second), d.renamed(d.split(second)), d.shuffled(s.things(kind))}
}

// sumsOf are a matrix's sums for a kind.
func sumsOf(t *testing.T, kind api.ColourKind, m api.Matrix, colours []int) [][]api.Rat {
	t.Helper()
	a := callOf(sumName(kind)).do(held{m: m, colours: colours})
	if a.e != api.OK {
		t.Fatalf("%s: error %d", sumName(kind), a.e)
	}
	return a.rows
}

// sumName is the call that adds up for a kind.
func sumName(kind api.ColourKind) string {
	if kind == api.ColourRows {
		return "CompressRows"
	}
	return "Compress"
}

// clone are rows of their own.
func clone(l [][]api.Rat) [][]api.Rat {
	z := make([][]api.Rat, len(l))
	for i := range l {
		z[i] = slices.Clone(l[i])
	}
	return z
}

// allColours calls f with each list of n colours below most; the list changes behind f.
func allColours(n, most int, f func(l []int)) {
	l := make([]int, n)
	var more func(i int)
	more = func(i int) {
		if i == n {
			f(l)
			return
		}
		for l[i] = 0; l[i] < most; l[i]++ {
			more(i + 1)
		}
	}
	more(0)
}

// allSheets calls f with each sheet of so many rows and columns.
func allSheets(rows, width int, f func(s sheet)) {
	for bits := range 1 << (rows * width) {
		f(where(rows, width, func(r, c int) bool { return bits>>(r*width+c)&1 > 0 }))
	}
}

// allGraphs calls f with each symmetric sheet of n vertices without a diagonal, and with one at random.
func (d *dice) allGraphs(n int, f func(s sheet)) {
	for bits := range 1 << (n * (n - 1) / 2) {
		for _, per := range []int{0, pick(d, 50, 100)} {
			k := bits
			f(joined(n, func(u, v int) bool {
				if u == v {
					return d.next(100) < per
				}
				yes := k&1 > 0
				k >>= 1
				return yes
			}))
		}
	}
}
