package sparse_test

import (
	"fmt"
	"math/big"
	"slices"

	"slope/api"
	"slope/rational"
	"slope/sparse"
)

// held is what calls are given.
type held struct {
	p, next        api.Pattern   // next: what stands behind p in a product, or what is padded to
	list           []api.Pattern // of Union and Inter
	m, beside, own api.Matrix    // beside: in a sum; own: behind m in a product
	rows, width    int
	rs, cs         []int
	vals           []api.Rat
	byRows, byCols []int // orders
	dense          [][]api.Rat
	r, c           int
}

// answer is what a call says.
type answer struct {
	pats  []api.Pattern
	mats  []api.Matrix
	ints  [][]int
	rats  [][]api.Rat
	tells bool
	count int
	e     api.Errno
}

// text is an answer for comparing and for messages.
func (a answer) text() string {
	s := fmt.Sprint(a.e, a.tells, a.count, a.ints)
	for _, p := range a.pats {
		s += " " + showPattern(p)
	}
	for _, m := range a.mats {
		s += " " + showPattern(m.P) + row(m.Vals)
	}
	for _, l := range a.rats {
		s += " " + row(l)
	}
	return s
}

func patternAnswer(p api.Pattern, e api.Errno) answer {
	return answer{pats: []api.Pattern{p}, e: e}
}

func matrixAnswer(m api.Matrix, e api.Errno) answer { return answer{mats: []api.Matrix{m}, e: e} }

func listAnswer(l []int, e api.Errno) answer { return answer{ints: [][]int{l}, e: e} }

// call is a call of the face, and what the chapter says of it.
type call struct {
	name string
	do   func(h held) answer
	want func(h held) answer
}

// firstError is the first of these that is one.
func firstError(l ...api.Errno) api.Errno {
	for _, e := range l {
		if e != api.OK {
			return e
		}
	}
	return api.OK
}

// unless is an error, if something doesn't hold.
func unless(holds bool, e api.Errno) api.Errno {
	if holds {
		return api.OK
	}
	return e
}

func patternFault(l ...api.Pattern) api.Errno {
	return unless(!slices.ContainsFunc(l, func(p api.Pattern) bool { return !plainMay(p) }), api.ErrPattern)
}

func matrixFault(l ...api.Matrix) api.Errno {
	return unless(!slices.ContainsFunc(l, func(m api.Matrix) bool { return !plainMayMatrix(m) }), api.ErrMatrix)
}

func rangeFault(l []int, n int) api.Errno {
	return unless(!slices.ContainsFunc(l, func(i int) bool { return i < 0 || i >= n }), api.ErrArg)
}

func numberFault(l []api.Rat) api.Errno {
	return unless(!slices.ContainsFunc(l, func(r api.Rat) bool { return !rational.May(r) }), api.ErrRat)
}

// onPattern is what a call with p alone says where it is not refused.
func onPattern(square bool, f func(s sheet) sheet) func(h held) answer {
	return func(h held) answer {
		if e := firstError(patternFault(h.p), unless(!square || h.p.Rows == h.p.Width, api.ErrShape)); e != api.OK {
			return patternAnswer(api.Pattern{}, e)
		}
		return patternAnswer(f(sheetOf(h.p)).pattern(), api.OK)
	}
}

// onVertices is what a call that numbers vertices says.
func onVertices(f func(s sheet) []int) func(h held) answer {
	return func(h held) answer {
		if e := firstError(patternFault(h.p), unless(h.p.Rows == h.p.Width, api.ErrShape)); e != api.OK {
			return listAnswer(nil, e)
		}
		return listAnswer(f(sheetOf(h.p)), api.OK)
	}
}

// onList is what Union and Inter say: the places that so many of the patterns have, or more.
func onList(least func(n int) int) func(h held) answer {
	return func(h held) answer {
		e := patternFault(h.list...)
		if e == api.OK && len(h.list) == 0 {
			e = api.ErrShape
		}
		for _, p := range h.list {
			e = firstError(e, unless(p.Rows == h.list[0].Rows && p.Width == h.list[0].Width, api.ErrShape))
		}
		if e != api.OK {
			return patternAnswer(api.Pattern{}, e)
		}
		var l []sheet
		for _, p := range h.list {
			l = append(l, sheetOf(p))
		}
		return patternAnswer(mark(l[0].rows, l[0].width, func(r, c int) bool {
			n := 0
			for _, s := range l {
				if s.at[r][c] != nil {
					n++
				}
			}
			return n >= least(len(l))
		}).pattern(), api.OK)
	}
}

// patternCalls are the calls on patterns that answer patterns or lists.
func patternCalls() []call {
	both := func(s sheet, r, c int) bool { return s.at[r][c] != nil || s.at[c][r] != nil }
	return []call{
		{"Build", func(h held) answer { return patternAnswer(sparse.Build(h.rows, h.width, h.rs, h.cs)) }, wantBuild},
		{"Places", func(h held) answer {
			rs, cs, e := sparse.Places(h.p)
			return answer{ints: [][]int{rs, cs}, e: e}
		}, wantPlaces},
		{"Turn", func(h held) answer { return patternAnswer(sparse.Turn(h.p)) }, onPattern(false, func(s sheet) sheet {
			return mark(s.width, s.rows, func(r, c int) bool { return s.at[c][r] != nil })
		})},
		{"Union", func(h held) answer { return patternAnswer(sparse.Union(h.list...)) }, onList(func(int) int { return 1 })},
		{"Inter", func(h held) answer { return patternAnswer(sparse.Inter(h.list...)) }, onList(func(n int) int { return n })},
		{"Product", func(h held) answer { return patternAnswer(sparse.Product(h.p, h.next)) }, wantProduct},
		{"Close", func(h held) answer { return patternAnswer(sparse.Close(h.p)) }, onPattern(true, func(s sheet) sheet {
			return mark(s.rows, s.rows, func(r, c int) bool { return both(s, r, c) })
		})},
		{"Graph", func(h held) answer { return patternAnswer(sparse.Graph(h.p)) }, onPattern(true, func(s sheet) sheet {
			return mark(s.rows, s.rows, func(r, c int) bool { return r != c && both(s, r, c) })
		})},
		{"Permute", func(h held) answer { return patternAnswer(sparse.Permute(h.p, h.byRows, h.byCols)) }, wantPermute},
		{"Components", func(h held) answer { return listAnswer(sparse.Components(h.p)) }, onVertices(plainComponents)},
		{"Blocks", func(h held) answer { return listAnswer(sparse.Blocks(h.p)) }, onVertices(plainBlocks)},
	}
}

func wantBuild(h held) answer {
	e := firstError(unless(sideOK(h.rows) && sideOK(h.width), api.ErrPattern), unless(len(h.rs) == len(h.cs), api.ErrShape), rangeFault(h.rs, h.rows), rangeFault(h.cs, h.width))
	if e != api.OK {
		return patternAnswer(api.Pattern{}, e)
	}
	s := blank(h.rows, h.width)
	for i := range h.rs {
		s.at[h.rs[i]][h.cs[i]] = one()
	}
	return patternAnswer(s.pattern(), api.OK)
}

func wantPlaces(h held) answer {
	if e := patternFault(h.p); e != api.OK {
		return answer{ints: make([][]int, 2), e: e}
	}
	var rs, cs []int
	for r, line := range sheetOf(h.p).at {
		for c, v := range line {
			if v != nil {
				rs, cs = append(rs, r), append(cs, c)
			}
		}
	}
	return answer{ints: [][]int{rs, cs}}
}

func wantProduct(h held) answer {
	if e := firstError(patternFault(h.p, h.next), unless(h.p.Width == h.next.Rows, api.ErrShape)); e != api.OK {
		return patternAnswer(api.Pattern{}, e)
	}
	a, b := sheetOf(h.p), sheetOf(h.next)
	return patternAnswer(mark(a.rows, b.width, func(i, k int) bool {
		for j := range a.width {
			if a.at[i][j] != nil && b.at[j][k] != nil {
				return true
			}
		}
		return false
	}).pattern(), api.OK)
}

func wantPermute(h held) answer {
	orders := plainOrder(h.byRows, h.p.Rows) && plainOrder(h.byCols, h.p.Width)
	if e := firstError(patternFault(h.p), unless(orders, api.ErrOrder)); e != api.OK {
		return patternAnswer(api.Pattern{}, e)
	}
	s := sheetOf(h.p)
	return patternAnswer(mark(s.rows, s.width, func(i, k int) bool { return s.at[h.byRows[i]][h.byCols[k]] != nil }).pattern(), api.OK)
}

// tellCalls are the calls that tell, count or look something up.
func tellCalls() []call {
	return []call{
		{"May", func(h held) answer { return answer{tells: sparse.May(h.p)} }, func(h held) answer { return answer{tells: plainMay(h.p)} }},
		{"MayMatrix", func(h held) answer { return answer{tells: sparse.MayMatrix(h.m)} }, func(h held) answer { return answer{tells: plainMayMatrix(h.m)} }},
		{"Has", func(h held) answer { return answer{tells: sparse.Has(h.p, h.r, h.c)} }, func(h held) answer {
			return answer{tells: plainMay(h.p) && sheetOf(h.p).inside(h.r, h.c)}
		}},
		{"Count", func(h held) answer { return answer{count: sparse.Count(h.p)} }, func(h held) answer {
			l := wantPlaces(h)
			return answer{count: len(l.ints[0])}
		}},
		{"Symmetric", func(h held) answer { return answer{tells: sparse.Symmetric(h.p)} }, func(h held) answer {
			if !plainMay(h.p) || h.p.Rows != h.p.Width {
				return answer{}
			}
			s := sheetOf(h.p)
			turned := mark(s.rows, s.rows, func(r, c int) bool { return s.at[c][r] != nil })
			return answer{tells: showPattern(turned.pattern()) == showPattern(h.p)}
		}},
		{"Get", func(h held) answer {
			v, found := sparse.Get(h.m, h.r, h.c)
			return answer{rats: [][]api.Rat{{v}}, tells: found}
		}, func(h held) answer {
			if !plainMayMatrix(h.m) || !sheetOf(h.m.P).inside(h.r, h.c) {
				return answer{rats: [][]api.Rat{{{}}}}
			}
			return answer{rats: [][]api.Rat{{ratOf(numbers(h.m).at[h.r][h.c])}}, tells: true}
		}},
		{"Same", func(h held) answer { return answer{tells: sparse.Same(h.m, h.beside)} }, func(h held) answer {
			if !plainMayMatrix(h.m) || !plainMayMatrix(h.beside) {
				return answer{}
			}
			return answer{tells: matrixAnswer(h.m, 0).text() == matrixAnswer(h.beside, 0).text()}
		}},
	}
}

// matrixCalls are the calls that answer matrices and numbers.
func matrixCalls() []call {
	return []call{
		{"FromEntries", func(h held) answer { return matrixAnswer(sparse.FromEntries(h.rows, h.width, h.rs, h.cs, h.vals)) }, wantEntries},
		{"TurnMatrix", func(h held) answer { return matrixAnswer(sparse.TurnMatrix(h.m)) }, func(h held) answer {
			if e := matrixFault(h.m); e != api.OK {
				return matrixAnswer(api.Matrix{}, e)
			}
			s := numbers(h.m)
			return matrixAnswer(fill(s.width, s.rows, func(r, c int) *big.Rat { return s.at[c][r] }).matrix(), api.OK)
		}},
		{"Plus", func(h held) answer { return matrixAnswer(sparse.Plus(h.m, h.beside)) }, wantPlus},
		{"Times", func(h held) answer { return matrixAnswer(sparse.Times(h.m, h.own)) }, wantTimes},
		{"Dense", func(h held) answer {
			l, e := sparse.Dense(h.m)
			return answer{rats: l, count: len(l), e: e}
		}, wantDense},
		{"Sparse", func(h held) answer { return matrixAnswer(sparse.Sparse(h.dense, h.width)) }, wantSparse},
		{"Pad", func(h held) answer {
			m, all, e := sparse.Pad(h.m, h.next)
			return answer{mats: []api.Matrix{m}, tells: all, e: e}
		}, wantPad},
	}
}

func wantEntries(h held) answer {
	e := firstError(unless(sideOK(h.rows) && sideOK(h.width), api.ErrPattern), unless(len(h.rs) == len(h.cs) && len(h.rs) == len(h.vals), api.ErrShape), numberFault(h.vals), rangeFault(h.rs, h.rows), rangeFault(h.cs, h.width))
	if e != api.OK {
		return matrixAnswer(api.Matrix{}, e)
	}
	return matrixAnswer(totals(h.rows, h.width, func(r, c int) []*big.Rat {
		var l []*big.Rat
		for i := range h.rs {
			if h.rs[i] == r && h.cs[i] == c {
				l = append(l, bigOf(h.vals[i]))
			}
		}
		return l
	}))
}

func wantPlus(h held) answer {
	if e := firstError(matrixFault(h.m, h.beside), unless(h.m.P.Rows == h.beside.P.Rows && h.m.P.Width == h.beside.P.Width, api.ErrShape)); e != api.OK {
		return matrixAnswer(api.Matrix{}, e)
	}
	a, b := numbers(h.m), numbers(h.beside)
	return matrixAnswer(totals(a.rows, a.width, func(r, c int) []*big.Rat {
		return slices.DeleteFunc([]*big.Rat{a.at[r][c], b.at[r][c]}, func(v *big.Rat) bool { return v == nil })
	}))
}

func wantTimes(h held) answer {
	if e := firstError(matrixFault(h.m, h.own), unless(h.m.P.Width == h.own.P.Rows, api.ErrShape)); e != api.OK {
		return matrixAnswer(api.Matrix{}, e)
	}
	a, b := numbers(h.m), numbers(h.own)
	return matrixAnswer(totals(a.rows, b.width, func(i, k int) []*big.Rat {
		var l []*big.Rat
		for j := range a.width {
			if x, y := a.at[i][j], b.at[j][k]; x != nil && y != nil {
				l = append(l, new(big.Rat).Mul(x, y))
			}
		}
		return l
	}))
}

func wantDense(h held) answer {
	if e := matrixFault(h.m); e != api.OK {
		return answer{e: e}
	}
	z := answer{count: h.m.P.Rows}
	for _, line := range numbers(h.m).at {
		var l []api.Rat
		for _, v := range line {
			if v == nil {
				v = new(big.Rat)
			}
			l = append(l, ratOf(v))
		}
		z.rats = append(z.rats, l)
	}
	return z
}

func wantSparse(h held) answer {
	e := unless(sideOK(len(h.dense)) && sideOK(h.width), api.ErrPattern)
	for _, l := range h.dense {
		e = firstError(e, unless(len(l) == h.width, api.ErrShape))
	}
	for _, l := range h.dense {
		e = firstError(e, numberFault(l))
	}
	if e != api.OK {
		return matrixAnswer(api.Matrix{}, e)
	}
	return matrixAnswer(fill(len(h.dense), h.width, func(r, c int) *big.Rat {
		if v := bigOf(h.dense[r][c]); v.Sign() != 0 {
			return v
		}
		return nil
	}).matrix(), api.OK)
}

func wantPad(h held) answer {
	e := firstError(matrixFault(h.m), patternFault(h.next), unless(h.m.P.Rows == h.next.Rows && h.m.P.Width == h.next.Width, api.ErrShape))
	if e != api.OK {
		return matrixAnswer(api.Matrix{}, e)
	}
	s, p, all := numbers(h.m), sheetOf(h.next), true
	z := fill(p.rows, p.width, func(r, c int) *big.Rat {
		v := s.at[r][c]
		if p.at[r][c] == nil {
			all = all && (v == nil || v.Sign() == 0)
			return nil
		}
		if v == nil {
			v = new(big.Rat)
		}
		return v
	})
	return answer{mats: []api.Matrix{z.matrix()}, tells: all}
}

// allCalls are all calls of the face.
func allCalls() []call { return slices.Concat(patternCalls(), tellCalls(), matrixCalls()) }
