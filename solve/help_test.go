package solve_test

import (
	"fmt"
	"math/big"
	"strings"
	"testing"

	"slope/api"
	"slope/natural"
	"slope/rational"
	"slope/solve"
	"slope/tape"
)

// dice throws numbers that are the same in every run.
type dice uint64

func (d *dice) next(n int) int {
	*d = *d*6364136223846793005 + 1442695040888963407
	return int(uint32(*d>>32)) % n
}

// pick is one of a list.
func pick[T any](d *dice, l ...T) T { return l[d.next(len(l))] }

// short is the beginning of a long message.
func short(s string) string {
	if len(s) > 600 {
		return s[:600] + fmt.Sprintf(".. (%d bytes)", len(s))
	}
	return s
}

// num reads a number.
func num(s string) api.Rat {
	r, _, e := rational.Parse(s)
	if e != api.OK {
		panic(s)
	}
	return r
}

// nums reads numbers that blanks stand between.
func nums(s string) []api.Rat {
	var l []api.Rat
	for _, word := range strings.Fields(s) {
		l = append(l, num(word))
	}
	return l
}

// bigOf is a number in the library's form.
func bigOf(r api.Rat) *big.Rat {
	z := new(big.Rat).SetFrac(bigNat(r.Num), bigNat(r.Den))
	if r.Neg {
		z.Neg(z)
	}
	return z
}

// bigsOf are many.
func bigsOf(l []api.Rat) []*big.Rat {
	z := make([]*big.Rat, len(l))
	for i, r := range l {
		z[i] = bigOf(r)
	}
	return z
}

// bigNat is a natural in the library's form.
func bigNat(n api.Nat) *big.Int {
	b := make([]byte, 4*len(n))
	for i, limb := range n {
		for j := range 4 {
			b[len(b)-1-4*i-j] = byte(limb >> (8 * j))
		}
	}
	return new(big.Int).SetBytes(b)
}

// ratOf is one of the library's numbers.
func ratOf(r *big.Rat) api.Rat {
	nat := func(n *big.Int) api.Nat {
		var z api.Nat
		b := n.Bytes()
		for i := range b {
			if i%4 == 0 {
				z = append(z, 0)
			}
			z[i/4] |= uint32(b[len(b)-1-i]) << (8 * (i % 4))
		}
		return z
	}
	return api.Rat{Neg: r.Sign() < 0, Num: nat(r.Num()), Den: nat(r.Denom())}
}

// ratsOf are many.
func ratsOf(l []*big.Rat) []api.Rat {
	z := make([]api.Rat, len(l))
	for i, r := range l {
		z[i] = ratOf(r)
	}
	return z
}

// twoTo is 2^n + more.
func twoTo(n int, more int64) *big.Rat {
	z := new(big.Int).Lsh(big.NewInt(1), uint(n))
	return new(big.Rat).SetInt(z.Add(z, big.NewInt(more)))
}

// over is 1 over a number that is not 0.
func over(r *big.Rat) *big.Rat { return new(big.Rat).Inv(r) }

// ofBits is a whole number above 0 of just so many bits, at random.
func (d *dice) ofBits(n int) *big.Int {
	z := big.NewInt(1)
	for z.BitLen() < n {
		k := min(30, n-z.BitLen())
		z.Lsh(z, uint(k)).Or(z, big.NewInt(int64(d.next(1<<k))))
	}
	return z
}

// show is a number; of one that may not be its lists.
func show(r api.Rat) string {
	if rational.May(r) {
		return bigOf(r).RatString()
	}
	return fmt.Sprintf("%v %x/%x", r.Neg, []uint32(r.Num), []uint32(r.Den))
}

// showRow is numbers for comparing and for messages.
func showRow(l []api.Rat) string {
	var z []string
	for _, r := range l {
		z = append(z, show(r))
	}
	return strings.Join(z, " ")
}

// showRows is rows of them.
func showRows(l [][]api.Rat) string {
	var z []string
	for _, r := range l {
		z = append(z, showRow(r))
	}
	return strings.Join(z, ", ")
}

// grid is a matrix's numbers; nil where there is no entry.
type grid struct {
	width int
	at    [][]*big.Rat
}

// gridOf reads a matrix: rows that commas stand between, a point where there is no entry.
func gridOf(s string) grid {
	var g grid
	if s == "" {
		return g
	}
	for _, line := range strings.Split(s, ",") {
		words := strings.Fields(line)
		g.width = len(words)
		l := make([]*big.Rat, len(words))
		for c, word := range words {
			if word != "." {
				l[c] = bigOf(num(word))
			}
		}
		g.at = append(g.at, l)
	}
	return g
}

// gridBy is one of the entries that f tells.
func gridBy(rows, width int, f func(r, c int) *big.Rat) grid {
	g := grid{width: width, at: make([][]*big.Rat, rows)}
	for r := range rows {
		g.at[r] = make([]*big.Rat, width)
		for c := range width {
			g.at[r][c] = f(r, c)
		}
	}
	return g
}

// matrix is the grid's.
func (g grid) matrix() api.Matrix {
	m := api.Matrix{P: api.Pattern{Rows: len(g.at), Width: g.width, Start: []int{0}}}
	for _, l := range g.at {
		for c, v := range l {
			if v != nil {
				m.P.Cols, m.Vals = append(m.P.Cols, c), append(m.Vals, ratOf(v))
			}
		}
		m.P.Start = append(m.P.Start, len(m.P.Cols))
	}
	return m
}

// gridIn is the grid of a matrix that may be.
func gridIn(m api.Matrix) grid {
	g := gridBy(m.P.Rows, m.P.Width, func(_, _ int) *big.Rat { return nil })
	for r := range m.P.Rows {
		for i := m.P.Start[r]; i < m.P.Start[r+1]; i++ {
			g.at[r][m.P.Cols[i]] = bigOf(m.Vals[i])
		}
	}
	return g
}

// full is the grid with 0 where there is no entry.
func (g grid) full() [][]*big.Rat {
	return gridBy(len(g.at), g.width, func(r, c int) *big.Rat {
		if g.at[r][c] == nil {
			return new(big.Rat)
		}
		return g.at[r][c]
	}).at
}

// turned is the grid with rows and columns exchanged.
func (g grid) turned() grid {
	return gridBy(g.width, len(g.at), func(r, c int) *big.Rat { return g.at[c][r] })
}

// text is the grid as gridOf reads it.
func (g grid) text() string {
	var rows []string
	for _, l := range g.at {
		var words []string
		for _, v := range l {
			if v == nil {
				words = append(words, ".")
			} else {
				words = append(words, v.RatString())
			}
		}
		rows = append(rows, strings.Join(words, " "))
	}
	return fmt.Sprintf("%d by %d: %s", len(g.at), g.width, strings.Join(rows, ","))
}

// mat reads a matrix as gridOf does.
func mat(s string) api.Matrix { return gridOf(s).matrix() }

// held is what calls are given.
type held struct {
	a     api.Matrix
	b     []api.Rat
	x     api.Tape
	at    []api.Rat
	steps int
}

// answer is what they answer.
type answer struct {
	ints        []int
	list, proof []api.Rat
	rows        [][]api.Rat
	pivots      []api.Pivot
	number      api.Rat
	n           int
	walk        api.Walk
	e           api.Errno
}

func (a answer) text() string {
	s := fmt.Sprintf("%v | %s | %s | %s | %s | %d", a.ints, showRow(a.list), showRow(a.proof), showRows(a.rows), show(a.number), a.n)
	for _, p := range a.pivots {
		s += fmt.Sprintf(" | (%d, %d) %s", p.Row, p.Col, show(p.Value))
	}
	return s + fmt.Sprintf(" | %s | %d, %d | error %d", showRows(a.walk.Points), a.walk.End, a.walk.Node, a.e)
}

// numbers are all of an answer.
func (a answer) numbers() []api.Rat {
	l := append(append([]api.Rat{}, a.list...), a.proof...)
	for _, r := range append(append([][]api.Rat{}, a.rows...), a.walk.Points...) {
		l = append(l, r...)
	}
	for _, p := range a.pivots {
		l = append(l, p.Value)
	}
	if len(a.number.Den) > 0 {
		l = append(l, a.number)
	}
	return l
}

// isNothing tells whether nothing stands beside the error and the place.
func (a answer) isNothing() bool {
	isZero := !a.number.Neg && len(a.number.Num)+len(a.number.Den) == 0
	return isZero && len(a.ints)+len(a.list)+len(a.proof)+len(a.rows)+len(a.pivots)+len(a.walk.Points) == 0 && a.walk.End == 0 && a.walk.Node == 0
}

// call is a call by its name.
type call struct {
	name  string
	do    func(h held) answer
	plain func(h held) answer
}

// matrixCalls are those of systems.
func matrixCalls() []call {
	return []call{
		{"First", func(h held) answer {
			l, e := solve.First(h.a)
			return answer{ints: l, e: e}
		}, plainFirst},
		{"Determinant", func(h held) answer {
			r, e := solve.Determinant(h.a)
			return answer{number: r, e: e}
		}, plainDeterminant},
		{"Solve", func(h held) answer {
			x, y, e := solve.Solve(h.a, h.b)
			return answer{list: x, proof: y, e: e}
		}, plainSolve},
		{"Kernel", func(h held) answer {
			l, e := solve.Kernel(h.a)
			return answer{rows: l, e: e}
		}, plainKernel},
		{"Inverse", func(h held) answer {
			l, e := solve.Inverse(h.a)
			return answer{rows: l, e: e}
		}, plainInverse},
		{"Pivots", func(h held) answer {
			l, n, e := solve.Pivots(h.a)
			return answer{pivots: l, n: n, e: e}
		}, plainPivots},
	}
}

// walkCall is Newton.
func walkCall() call {
	return call{"Newton", func(h held) answer {
		w, place, e := solve.Newton(h.x, h.at, h.steps)
		return answer{walk: w, n: place, e: e}
	}, plainNewton}
}

// callOf is the call of that name.
func callOf(name string) call {
	for _, c := range append(matrixCalls(), walkCall()) {
		if c.name == name {
			return c
		}
	}
	panic(name)
}

// wantPlain fails unless a call answers what the plain one does; a certificate is held against its two conditions. It gives the answer.
func wantPlain(t *testing.T, c call, h held, what string) answer {
	t.Helper()
	got, want := c.do(h), c.plain(h)
	if c.name == "Solve" && got.e == api.ErrNone && want.e == api.ErrNone {
		if s := proofFault(h, got.proof); s != "" {
			t.Fatalf("Solve of %s: the certificate %s: %s", short(what), short(showRow(got.proof)), s)
		}
		want.proof = got.proof
	}
	if got.text() != want.text() {
		t.Fatalf("%s of %s:\n%s, want\n%s", c.name, short(what), short(got.text()), short(want.text()))
	}
	return got
}

// wantAll holds all calls of systems against plain ones.
func wantAll(t *testing.T, g grid, b []*big.Rat) {
	t.Helper()
	what := g.text() + " with " + showRow(ratsOf(b))
	h := held{a: g.matrix(), b: ratsOf(b)}
	for _, c := range matrixCalls() {
		wantPlain(t, c, h, what)
	}
}

// proofFault is what is wrong with a certificate that a system has no solution.
func proofFault(h held, y []api.Rat) string {
	if len(y) != h.a.P.Rows {
		return "of another length"
	}
	for _, r := range y {
		if !rational.May(r) {
			return "a number that may not be"
		}
	}
	v := bigsOf(y)
	g := gridIn(h.a)
	for c, p := range rowTimes(v, g.full(), g.width) {
		if p.Sign() != 0 {
			return fmt.Sprintf("column %d is not 0", c)
		}
	}
	if dot(v, bigsOf(h.b)).Sign() == 0 {
		return "the numbers beside it make 0"
	}
	return ""
}

// dot adds up products.
func dot(a, b []*big.Rat) *big.Rat {
	z := new(big.Rat)
	for i := range a {
		z.Add(z, new(big.Rat).Mul(a[i], b[i]))
	}
	return z
}

// rowTimes is a row times a matrix of so many columns.
func rowTimes(y []*big.Rat, m [][]*big.Rat, width int) []*big.Rat {
	z := make([]*big.Rat, width)
	for c := range z {
		var col []*big.Rat
		for r := range m {
			col = append(col, m[r][c])
		}
		z[c] = dot(y, col)
	}
	return z
}

// timesCol is a matrix times a column.
func timesCol(m [][]*big.Rat, x []*big.Rat) []*big.Rat {
	z := make([]*big.Rat, len(m))
	for r := range m {
		z[r] = dot(m[r], x)
	}
	return z
}

// number is one at random, at times 0.
func (d *dice) number() *big.Rat {
	if d.next(15) == 0 {
		return bigOf(num(pick(d, "-18446744073709551617/6", "4294967296/7", "1/18446744073709551616")))
	}
	return big.NewRat(int64(d.next(19)-9), int64(pick(d, 1, 1, 1, 2, 3, 13)))
}

// little is a small whole number at random, so that sums are often 0.
func (d *dice) little() *big.Rat { return big.NewRat(int64(d.next(5)-2), 1) }

// numbers are so many at random.
func (d *dice) numbers(n int, f func() *big.Rat) []*big.Rat {
	z := make([]*big.Rat, n)
	for i := range z {
		z[i] = f()
	}
	return z
}

// grid is one at random with entries at so many of a hundred places.
func (d *dice) grid(rows, width, per int, f func() *big.Rat) grid {
	return gridBy(rows, width, func(_, _ int) *big.Rat {
		if d.next(100) < per {
			return f()
		}
		return nil
	})
}

// ofRank is a grid that is the product of two at random: its rank is k at most.
func (d *dice) ofRank(rows, width, k int, f func() *big.Rat) grid {
	x, y := d.grid(rows, k, 80, f).full(), d.grid(k, width, 80, f).full()
	return gridBy(rows, width, func(r, c int) *big.Rat {
		z := new(big.Rat)
		for j := range k {
			z.Add(z, new(big.Rat).Mul(x[r][j], y[j][c]))
		}
		if z.Sign() == 0 && d.next(2) == 0 {
			return nil
		}
		return z
	})
}

// must is the tape whose text has these lines, with ; between them.
func must(t *testing.T, text string) api.Tape {
	t.Helper()
	x, at, e := tape.Parse(strings.ReplaceAll(text, "; ", "\n") + "\n")
	if e != api.OK {
		t.Fatalf("tape.Parse(%q): place %d, error %d", short(text), at, e)
	}
	return x
}

// showTape is a tape for messages: its text, where it has one.
func showTape(x api.Tape) string {
	s, e := tape.Print(x)
	if e != api.OK {
		return short(fmt.Sprint(x))
	}
	return short(strings.ReplaceAll(s, "\n", "; "))
}

// Nodes by hand.
func in(a int) api.Op                 { return api.Op{Kind: api.OpInput, A: a} }
func constant(r api.Rat) api.Op       { return api.Op{Kind: api.OpConst, C: r} }
func two(k api.Kind, a, b int) api.Op { return api.Op{Kind: k, A: a, B: b} }
func neg(a int) api.Op                { return api.Op{Kind: api.OpNeg, A: a} }
func pow(a, n int) api.Op             { return api.Op{Kind: api.OpPow, A: a, N: n} }

// power2 is 2^n, over 1.
func power2(n int) api.Rat { return ratOf(twoTo(n, 0)) }

// wrongNumbers are numbers that may not be.
func wrongNumbers() []api.Rat {
	return []api.Rat{
		{}, {Num: api.Nat{1}}, {Num: api.Nat{2}, Den: api.Nat{4}}, {Neg: true, Den: api.Nat{1}}, {Den: api.Nat{2}}, {Num: api.Nat{1, 0}, Den: api.Nat{1}}, {Num: api.Nat{1}, Den: api.Nat{3, 0}}, {Num: append(make(api.Nat, api.MaxLimbs), 1), Den: api.Nat{1}}, {Num: natural.From(6), Den: append(make(api.Nat, api.MaxLimbs), 5)},
	}
}
