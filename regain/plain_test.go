package regain_test

import (
	"fmt"
	"math/big"
	"slices"
	"testing"

	"slope/api"
	"slope/regain"
)

// table is a matrix in the library's numbers; nothing stands where there is no place.
type table struct {
	rows, width int
	at          [][]*big.Rat
}

// tableOf is a table of zeros at a sheet's places.
func tableOf(s sheet) table {
	t := table{rows: s.rows, width: s.width}
	for r := range s.rows {
		t.at = append(t.at, make([]*big.Rat, s.width))
		for c := range s.width {
			if s.has[r][c] {
				t.at[r][c] = new(big.Rat)
			}
		}
	}
	return t
}

// sheet is the places.
func (t table) sheet() sheet {
	return where(t.rows, t.width, func(r, c int) bool { return t.at[r][c] != nil })
}

// matrix is the table as the program takes it.
func (t table) matrix() api.Matrix {
	m := api.Matrix{P: t.sheet().pattern()}
	for _, row := range t.at {
		for _, r := range row {
			if r != nil {
				m.Vals = append(m.Vals, ratOf(r))
			}
		}
	}
	return m
}

// plainRead reads a pattern as chapter 9 tells it: the sheet, and whether it may be.
func plainRead(p api.Pattern) (sheet, bool) {
	if p.Rows < 0 || p.Rows > 128 || p.Width < 0 || p.Width > 128 || len(p.Start) != p.Rows+1 || p.Start[0] != 0 {
		return sheet{}, false
	}
	for r := range p.Rows {
		if p.Start[r] > p.Start[r+1] || p.Start[r+1] > len(p.Cols) {
			return sheet{}, false
		}
	}
	if p.Start[p.Rows] != len(p.Cols) {
		return sheet{}, false
	}
	s := where(p.Rows, p.Width, func(_, _ int) bool { return false })
	for r := range p.Rows {
		last := -1
		for k := p.Start[r]; k < p.Start[r+1]; k++ {
			c := p.Cols[k]
			if c <= last || c >= p.Width {
				return sheet{}, false
			}
			s.has[r][c], last = true, c
		}
	}
	return s, true
}

// plainMay tells whether a number may be, as chapter 2 says.
func plainMay(r api.Rat) bool {
	for _, n := range []api.Nat{r.Num, r.Den} {
		if len(n) > 2048 || len(n) > 0 && n[len(n)-1] == 0 {
			return false
		}
	}
	if len(r.Den) == 0 {
		return false
	}
	if len(r.Num) == 0 {
		return !r.Neg && len(r.Den) == 1 && r.Den[0] == 1
	}
	if len(r.Den) == 1 && r.Den[0] == 1 || len(r.Num) == 1 && r.Num[0] == 1 {
		return true
	}
	return new(big.Int).GCD(nil, nil, bigNat(r.Num), bigNat(r.Den)).IsInt64() && new(big.Int).GCD(nil, nil, bigNat(r.Num), bigNat(r.Den)).Int64() == 1
}

func plainMayAll(l []api.Rat) bool {
	for _, r := range l {
		if !plainMay(r) {
			return false
		}
	}
	return true
}

func plainMayRows(l [][]api.Rat) bool {
	for _, r := range l {
		if !plainMayAll(r) {
			return false
		}
	}
	return true
}

// plainMatrix reads a matrix: the table, and whether it may be.
func plainMatrix(m api.Matrix) (table, bool) {
	s, may := plainRead(m.P)
	if !may || len(m.Vals) != len(m.P.Cols) || !plainMayAll(m.Vals) {
		return table{}, false
	}
	t := tableOf(s)
	k := 0
	for r := range s.rows {
		for c := range s.width {
			if s.has[r][c] {
				t.at[r][c] = bigOf(m.Vals[k])
				k++
			}
		}
	}
	return t, true
}

// plainColours tells whether these are colours of n things for a call.
func plainColours(colours []int, n int) bool {
	if len(colours) != n {
		return false
	}
	for _, c := range colours {
		if c < 0 || c > 65536 {
			return false
		}
	}
	return plainCount(colours) <= 128
}

// plainCount is the number of colours.
func plainCount(colours []int) int {
	n := 0
	for _, c := range colours {
		n = max(n, c+1)
	}
	return n
}

// plainIs tells whether colours are of a kind, as chapter 12 says; the diagonal doesn't count for the kinds of graphs.
func plainIs(kind api.ColourKind, s sheet, colours []int) bool {
	if kind == api.ColourRows {
		return plainIs(api.ColourColumns, s.turned(), colours)
	}
	for u := range s.width {
		for v := range u {
			if colours[u] != colours[v] {
				continue
			}
			for r := range s.rows {
				if kind == api.ColourColumns && s.has[r][u] && s.has[r][v] {
					return false
				}
			}
			if kind != api.ColourColumns && s.has[u][v] {
				return false
			}
		}
	}
	switch kind {
	case api.ColourStar:
		return !hasFour(s, colours)
	case api.ColourAcyclic:
		return !hasTwo(s, colours)
	}
	return true
}

// hasFour tells whether four vertices, neighbours one after the other, have two colours.
func hasFour(s sheet, colours []int) bool {
	for a := range s.rows {
		for b := range s.rows {
			for c := range s.rows {
				if !s.has[a][b] || !s.has[b][c] || a == b || b == c || a == c || colours[a] != colours[c] {
					continue
				}
				for d := range s.rows {
					if s.has[c][d] && d != a && d != b && d != c && colours[d] == colours[b] {
						return true
					}
				}
			}
		}
	}
	return false
}

// hasTwo tells whether the vertices of two colours have a circle: those with fewer than two neighbours are taken away until there are none.
func hasTwo(s sheet, colours []int) bool {
	names := slices.Compact(slices.Sorted(slices.Values(colours)))
	for i, c := range names {
		for _, d := range names[i+1:] {
			in := map[int]int{}
			for v, k := range colours {
				if k == c || k == d {
					in[v] = 1
				}
			}
			for again := true; again; {
				again = false
				for v := range in {
					n := 0
					for u := range in {
						if u != v && s.has[v][u] {
							n++
						}
					}
					if n < 2 {
						delete(in, v)
						again = true
					}
				}
			}
			if len(in) > 0 {
				return true
			}
		}
	}
	return false
}

// isTooLarge tells whether a number has more than MaxLimbs limbs.
func isTooLarge(r *big.Rat) bool {
	return r.Num().BitLen() > 65536 || r.Denom().BitLen() > 65536
}

// plainSum adds up from the left on; false, if something on the way is too large.
func plainSum(l ...*big.Rat) (*big.Rat, bool) {
	z := new(big.Rat)
	for _, r := range l {
		z = new(big.Rat).Add(z, r)
		if isTooLarge(z) {
			return nil, false
		}
	}
	return z, true
}

// plainCompress looks for each row and colour at all columns, or for each colour and column at all rows.
func plainCompress(kind api.ColourKind, t table, colours []int) ([][]*big.Rat, api.Errno) {
	n := plainCount(colours)
	height, width := t.rows, n
	if kind == api.ColourRows {
		height, width = n, t.width
	}
	sums := make([][]*big.Rat, height)
	for a := range sums {
		for b := range width {
			var l []*big.Rat
			if kind == api.ColourRows {
				for i := range t.rows {
					if colours[i] == a && t.at[i][b] != nil {
						l = append(l, t.at[i][b])
					}
				}
			} else {
				for j := range t.width {
					if colours[j] == b && t.at[a][j] != nil {
						l = append(l, t.at[a][j])
					}
				}
			}
			z, fits := plainSum(l...)
			if !fits {
				return nil, api.ErrBig
			}
			sums[a] = append(sums[a], z)
		}
	}
	return sums, api.OK
}

// plainFind finds the entries as the chapter's words tell it.
func plainFind(kind api.ColourKind, s sheet, colours []int, sums [][]*big.Rat) (table, api.Errno) {
	t := tableOf(s)
	if kind == api.ColourAcyclic {
		return t, plainSubstitute(t, s, colours, sums)
	}
	for i := range s.rows {
		for j := range s.width {
			switch {
			case !s.has[i][j]:
			case kind == api.ColourRows:
				t.at[i][j] = sums[colours[i]][j]
			case kind == api.ColourColumns || i == j || isAlone(s, colours, i, j):
				t.at[i][j] = sums[i][colours[j]]
			default:
				t.at[i][j] = sums[j][colours[i]]
			}
		}
	}
	return t, api.OK
}

// isAlone tells whether j alone of i's neighbours has its colour.
func isAlone(s sheet, colours []int, i, j int) bool {
	for k := range s.rows {
		if k != i && k != j && s.has[i][k] && colours[k] == colours[j] {
			return false
		}
	}
	return true
}

// plainSubstitute goes through all pairs of colours, and through all vertices from the lowest on behind each entry that is found.
func plainSubstitute(t table, s sheet, colours []int, sums [][]*big.Rat) api.Errno {
	known := where(s.rows, s.rows, func(_, _ int) bool { return false })
	for i := range s.rows {
		if s.has[i][i] {
			t.at[i][i] = sums[i][colours[i]]
		}
	}
	for c := range plainCount(colours) {
		for d := c + 1; d < plainCount(colours); d++ {
			for i := 0; i < s.rows; i++ {
				var open, done []int
				for j := range s.rows {
					if !s.has[i][j] || (colours[i] != c || colours[j] != d) && (colours[i] != d || colours[j] != c) {
						continue
					}
					if known.has[i][j] {
						done = append(done, j)
					} else {
						open = append(open, j)
					}
				}
				if len(open) != 1 {
					continue
				}
				j := open[0]
				z := sums[i][colours[j]]
				for _, k := range done {
					z = new(big.Rat).Sub(z, t.at[i][k])
					if isTooLarge(z) {
						return api.ErrBig
					}
				}
				t.at[i][j], t.at[j][i] = z, z
				known.has[i][j], known.has[j][i] = true, true
				i = -1
			}
		}
	}
	return api.OK
}

// plainProof is ErrSum or ErrBig, if what was found is not a matrix of the kind with these sums.
func plainProof(kind api.ColourKind, t table, colours []int, sums [][]*big.Rat) api.Errno {
	for i := range t.rows {
		for j := range t.width {
			if kind == api.ColourStar && t.at[i][j] != nil && t.at[i][j].Cmp(t.at[j][i]) != 0 {
				return api.ErrSum
			}
		}
	}
	again, e := plainCompress(kind, t, colours)
	if e != api.OK {
		return e
	}
	for i := range sums {
		for c := range sums[i] {
			if again[i][c].Cmp(sums[i][c]) != 0 {
				return api.ErrSum
			}
		}
	}
	return api.OK
}

// plainLook is the first error of all but what the work itself comes to.
func plainLook(kind api.ColourKind, h held) (sheet, api.Errno) {
	s, may := plainRead(h.p)
	switch {
	case !may:
		return s, api.ErrPattern
	case !plainMayRows(h.sums):
		return s, api.ErrRat
	case isOfGraphs(kind) && !s.isSymmetric():
		return s, api.ErrSquare
	case !plainColours(h.colours, s.things(kind)):
		return s, api.ErrColours
	case !plainIs(kind, s, h.colours):
		return s, api.ErrColouring
	}
	height, width := s.rows, plainCount(h.colours)
	if kind == api.ColourRows {
		height, width = plainCount(h.colours), s.width
	}
	if len(h.sums) != height {
		return s, api.ErrShape
	}
	for _, row := range h.sums {
		if len(row) != width {
			return s, api.ErrShape
		}
	}
	return s, api.OK
}

// bigRows are sums in the library's numbers.
func bigRows(l [][]api.Rat) [][]*big.Rat {
	z := make([][]*big.Rat, len(l))
	for i, row := range l {
		for _, r := range row {
			z[i] = append(z[i], bigOf(r))
		}
	}
	return z
}

// held is what calls are given; no call takes all of it.
type held struct {
	p       api.Pattern
	m       api.Matrix
	colours []int
	sums    [][]api.Rat
	x       []api.Rat
}

// answer is what a call tells.
type answer struct {
	m    api.Matrix
	rows [][]api.Rat
	list []api.Rat
	e    api.Errno
}

// text is an answer for messages.
func (a answer) text() string {
	return fmt.Sprint(a.m.P.Rows, a.m.P.Width, a.m.P.Start, a.m.P.Cols, " vals ", showRow(a.m.Vals), " rows ", len(a.rows), ": ", showRows(a.rows), " list ", showRow(a.list), " error ", int(a.e))
}

// same tells whether two numbers are written alike.
func same(a, b api.Rat) bool {
	return a.Neg == b.Neg && slices.Equal(a.Num, b.Num) && slices.Equal(a.Den, b.Den)
}

func sameAll(a, b []api.Rat) bool { return slices.EqualFunc(a, b, same) }

func sameRows(a, b [][]api.Rat) bool { return slices.EqualFunc(a, b, sameAll) }

func samePattern(a, b api.Pattern) bool {
	return a.Rows == b.Rows && a.Width == b.Width && slices.Equal(a.Start, b.Start) && slices.Equal(a.Cols, b.Cols)
}

func sameMatrix(a, b api.Matrix) bool { return samePattern(a.P, b.P) && sameAll(a.Vals, b.Vals) }

// same tells whether two answers are alike.
func (a answer) same(b answer) bool {
	return a.e == b.e && sameMatrix(a.m, b.m) && sameRows(a.rows, b.rows) && sameAll(a.list, b.list)
}

// isNothing tells whether an answer has nothing but its error.
func (a answer) isNothing() bool { return a.same(answer{e: a.e}) }

// call is one of the face, and what it should tell.
type call struct {
	name string
	do   func(h held) answer
	want func(h held) answer
}

func allCalls() []call {
	apart := func(kind api.ColourKind, f func(api.Pattern, []int, [][]api.Rat) (api.Matrix, api.Errno)) call {
		do := func(h held) answer {
			m, e := f(h.p, h.colours, h.sums)
			return answer{m: m, e: e}
		}
		return call{nameOf(kind), do, func(h held) answer { return wantApart(kind, h) }}
	}
	sums := func(kind api.ColourKind, f func(api.Matrix, []int) ([][]api.Rat, api.Errno)) call {
		do := func(h held) answer {
			l, e := f(h.m, h.colours)
			return answer{rows: l, e: e}
		}
		return call{sumName(kind), do, func(h held) answer { return wantSums(kind, h) }}
	}
	return []call{
		{"Seed", func(h held) answer {
			l, e := regain.Seed(h.colours)
			return answer{rows: l, e: e}
		}, wantSeed},
		sums(api.ColourColumns, regain.Compress),
		sums(api.ColourRows, regain.CompressRows),
		apart(api.ColourColumns, regain.Columns),
		apart(api.ColourRows, regain.Rows),
		apart(api.ColourStar, regain.Star),
		apart(api.ColourAcyclic, regain.Acyclic),
		{"Product", func(h held) answer {
			l, e := regain.Product(h.m, h.x)
			return answer{list: l, e: e}
		}, wantProduct},
	}
}

// callOf is a call by its name.
func callOf(name string) call {
	l := allCalls()
	return l[slices.IndexFunc(l, func(c call) bool { return c.name == name })]
}

func wantSeed(h held) answer {
	if len(h.colours) > 128 || !plainColours(h.colours, len(h.colours)) {
		return answer{e: api.ErrColours}
	}
	l := make([][]api.Rat, len(h.colours))
	for v, own := range h.colours {
		for c := range plainCount(h.colours) {
			r := num("0")
			if c == own {
				r = num("1")
			}
			l[v] = append(l[v], r)
		}
	}
	return answer{rows: l}
}

func wantSums(kind api.ColourKind, h held) answer {
	t, may := plainMatrix(h.m)
	switch {
	case !may:
		return answer{e: api.ErrMatrix}
	case !plainColours(h.colours, t.sheet().things(kind)):
		return answer{e: api.ErrColours}
	}
	l, e := plainCompress(kind, t, h.colours)
	return answer{rows: ratRows(l), e: e}
}

func wantApart(kind api.ColourKind, h held) answer {
	s, e := plainLook(kind, h)
	if e != api.OK {
		return answer{e: e}
	}
	sums := bigRows(h.sums)
	t, e := plainFind(kind, s, h.colours, sums)
	if e == api.OK {
		e = plainProof(kind, t, h.colours, sums)
	}
	if e != api.OK {
		return answer{e: e}
	}
	return answer{m: t.matrix()}
}

func wantProduct(h held) answer {
	t, may := plainMatrix(h.m)
	switch {
	case !may:
		return answer{e: api.ErrMatrix}
	case !plainMayAll(h.x):
		return answer{e: api.ErrRat}
	case len(h.x) != t.width:
		return answer{e: api.ErrShape}
	}
	var z []api.Rat
	for i := range t.rows {
		var l []*big.Rat
		for j := range t.width {
			if t.at[i][j] == nil {
				continue
			}
			r := new(big.Rat).Mul(t.at[i][j], bigOf(h.x[j]))
			if isTooLarge(r) {
				return answer{e: api.ErrBig}
			}
			l = append(l, r)
		}
		r, fits := plainSum(l...)
		if !fits {
			return answer{e: api.ErrBig}
		}
		z = append(z, ratOf(r))
	}
	return answer{list: z}
}

// wantPlain fails unless a call tells what the plain one does.
func wantPlain(t *testing.T, c call, h held) answer {
	t.Helper()
	a, want := c.do(h), c.want(h)
	if !a.same(want) {
		t.Fatalf("%s of %s: %s, want %s", c.name, short(h.text()), short(a.text()), short(want.text()))
	}
	return a
}

// text is what is held, for messages.
func (h held) text() string {
	return fmt.Sprint("pattern ", h.p, " matrix ", h.m.P, " ", showRow(h.m.Vals), " colours ", h.colours, " sums ", showRows(h.sums), " x ", showRow(h.x))
}
