package solve_test

import (
	"math/big"
	"slices"

	"slope/api"
	"slope/rational"
	"slope/sparse"
	"slope/tape"
)

// bits is how many binary digits a natural has.
func bits(n api.Nat) int { return bigNat(n).BitLen() }

// plainWeight is the weight of a system, by the chapter's words.
func plainWeight(a api.Matrix, b []api.Rat) int {
	total := 0
	for r := range a.P.Rows {
		numbers := []api.Rat{{Den: api.Nat{1}}}
		if b != nil {
			numbers = []api.Rat{b[r]}
		}
		numbers = append(numbers, a.Vals[a.P.Start[r]:a.P.Start[r+1]]...)
		dens, most := 0, 0
		for _, v := range numbers {
			dens += bits(v.Den)
			most = max(most, bits(v.Num))
		}
		total += dens + most + 7
	}
	return total
}

// plainFault is the first fault of a matrix that nothing stands beside.
func plainFault(a api.Matrix, square bool) api.Errno {
	switch {
	case !sparse.MayMatrix(a) || a.P.Rows > 64 || a.P.Width > 64:
		return api.ErrMatrix
	case square && a.P.Rows != a.P.Width:
		return api.ErrShape
	case plainWeight(a, nil) > 32768:
		return api.ErrLarge
	}
	return api.OK
}

// reduced is the matrix with each row brought to 1 at its first number that is not 0, which stands alone in its column; and these columns.
func reduced(m [][]*big.Rat, width int) ([][]*big.Rat, []int) {
	var z [][]*big.Rat
	for _, l := range m {
		z = append(z, slices.Clone(l))
	}
	var cols []int
	for c := range width {
		k := len(cols)
		r := k
		for r < len(z) && z[r][c].Sign() == 0 {
			r++
		}
		if r == len(z) {
			continue
		}
		z[k], z[r] = z[r], z[k]
		by := new(big.Rat).Inv(z[k][c])
		for j := range z[k] {
			z[k][j] = new(big.Rat).Mul(z[k][j], by)
		}
		for i := range z {
			if f := z[i][c]; i != k && f.Sign() != 0 {
				for j := range z[i] {
					z[i][j] = new(big.Rat).Sub(z[i][j], new(big.Rat).Mul(f, z[k][j]))
				}
			}
		}
		cols = append(cols, c)
	}
	return z, cols
}

// rankOf is the rank.
func rankOf(m [][]*big.Rat, width int) int {
	_, cols := reduced(m, width)
	return len(cols)
}

func plainFirst(h held) answer {
	if e := plainFault(h.a, false); e != api.OK {
		return answer{e: e}
	}
	g := gridIn(h.a)
	_, cols := reduced(g.full(), g.width)
	return answer{ints: cols}
}

// determinantOf is made by exchanges of rows and multiples of rows taken from others.
func determinantOf(m [][]*big.Rat) *big.Rat {
	var z [][]*big.Rat
	for _, l := range m {
		z = append(z, slices.Clone(l))
	}
	d := big.NewRat(1, 1)
	for k := range z {
		r := k
		for r < len(z) && z[r][k].Sign() == 0 {
			r++
		}
		if r == len(z) {
			return new(big.Rat)
		}
		if r != k {
			z[k], z[r] = z[r], z[k]
			d.Neg(d)
		}
		d.Mul(d, z[k][k])
		for i := k + 1; i < len(z); i++ {
			f := new(big.Rat).Quo(z[i][k], z[k][k])
			if f.Sign() == 0 {
				continue
			}
			for j := k; j < len(z); j++ {
				z[i][j] = new(big.Rat).Sub(z[i][j], new(big.Rat).Mul(f, z[k][j]))
			}
		}
	}
	return d
}

// expanded is the determinant as the sum over all orders, row by row.
func expanded(m [][]*big.Rat) *big.Rat {
	if len(m) == 0 {
		return big.NewRat(1, 1)
	}
	d := new(big.Rat)
	for c, v := range m[0] {
		if v.Sign() == 0 {
			continue
		}
		var rest [][]*big.Rat
		for _, l := range m[1:] {
			rest = append(rest, slices.Concat(l[:c], l[c+1:]))
		}
		p := new(big.Rat).Mul(v, expanded(rest))
		if c%2 == 1 {
			p.Neg(p)
		}
		d.Add(d, p)
	}
	return d
}

func plainDeterminant(h held) answer {
	if e := plainFault(h.a, true); e != api.OK {
		return answer{e: e}
	}
	return answer{number: ratOf(determinantOf(gridIn(h.a).full()))}
}

// beside is the matrix with one more column.
func beside(m [][]*big.Rat, b []*big.Rat) [][]*big.Rat {
	var z [][]*big.Rat
	for r, l := range m {
		z = append(z, slices.Concat(l, b[r:r+1]))
	}
	return z
}

// solvedBy is the solution that is 0 at every column that is not first, or nil.
func solvedBy(m [][]*big.Rat, width int, b []*big.Rat) []*big.Rat {
	z, cols := reduced(beside(m, b), width+1)
	if slices.Contains(cols, width) {
		return nil
	}
	x := make([]*big.Rat, width)
	for c := range x {
		x[c] = new(big.Rat)
	}
	for k, c := range cols {
		x[c] = z[k][width]
	}
	return x
}

func plainSolve(h held) answer {
	switch {
	case !sparse.MayMatrix(h.a) || h.a.P.Rows > 64 || h.a.P.Width > 64:
		return answer{e: api.ErrMatrix}
	case slices.ContainsFunc(h.b, func(r api.Rat) bool { return !rational.May(r) }):
		return answer{e: api.ErrRat}
	case len(h.b) != h.a.P.Rows:
		return answer{e: api.ErrShape}
	case plainWeight(h.a, h.b) > 32768:
		return answer{e: api.ErrLarge}
	}
	g := gridIn(h.a)
	x := solvedBy(g.full(), g.width, bigsOf(h.b))
	if x == nil {
		return answer{e: api.ErrNone}
	}
	return answer{list: ratsOf(x)}
}

func plainKernel(h held) answer {
	if e := plainFault(h.a, false); e != api.OK {
		return answer{e: e}
	}
	g := gridIn(h.a)
	z, cols := reduced(g.full(), g.width)
	var a answer
	for f := range g.width {
		if slices.Contains(cols, f) {
			continue
		}
		x := make([]*big.Rat, g.width)
		for c := range x {
			x[c] = new(big.Rat)
		}
		x[f] = big.NewRat(1, 1)
		for k, c := range cols {
			x[c] = new(big.Rat).Neg(z[k][f])
		}
		a.rows = append(a.rows, ratsOf(x))
	}
	return a
}

func plainInverse(h held) answer {
	if e := plainFault(h.a, true); e != api.OK {
		return answer{e: e}
	}
	m := gridIn(h.a).full()
	n := len(m)
	for r := range m {
		for c := range n {
			one := new(big.Rat)
			if c == r {
				one.SetInt64(1)
			}
			m[r] = append(m[r], one)
		}
	}
	z, cols := reduced(m, n)
	if len(cols) < n {
		return answer{e: api.ErrSingular}
	}
	var a answer
	for _, l := range z {
		a.rows = append(a.rows, ratsOf(l[n:]))
	}
	return a
}

// pivoting is Markowitz' elimination, word by word, on a full sheet; again counts the places that are filled once more, ties the steps with several least products.
type pivoting struct {
	m            [][]*big.Rat
	rows, cols   []int
	pivots       []api.Pivot
	fill         int
	filled, gone map[[2]int]struct{}
	again, ties  int
}

// next is the place of the next pivot; ok is false, if there is none.
func (p *pivoting) next() (row, col int, ok bool) {
	least, alike := 0, 0
	for _, r := range p.rows {
		for _, c := range p.cols {
			if p.m[r][c].Sign() == 0 {
				continue
			}
			inRow, inCol := 0, 0
			for _, k := range p.cols {
				inRow += p.m[r][k].Sign() * p.m[r][k].Sign()
			}
			for _, k := range p.rows {
				inCol += p.m[k][c].Sign() * p.m[k][c].Sign()
			}
			product := (inRow - 1) * (inCol - 1)
			switch {
			case !ok || product < least:
				row, col, ok, least, alike = r, c, true, product, 1
			case product == least:
				alike++
			}
		}
	}
	if alike > 1 {
		p.ties++
	}
	return row, col, ok
}

// take makes the step of a pivot.
func (p *pivoting) take(row, col int) {
	p.pivots = append(p.pivots, api.Pivot{Row: row, Col: col, Value: ratOf(p.m[row][col])})
	p.rows = slices.DeleteFunc(p.rows, func(r int) bool { return r == row })
	p.cols = slices.DeleteFunc(p.cols, func(c int) bool { return c == col })
	for _, r := range p.rows {
		if p.m[r][col].Sign() == 0 {
			continue
		}
		f := new(big.Rat).Quo(p.m[r][col], p.m[row][col])
		for _, c := range p.cols {
			before := p.m[r][c].Sign()
			p.m[r][c] = new(big.Rat).Sub(p.m[r][c], new(big.Rat).Mul(f, p.m[row][c]))
			p.note([2]int{r, c}, before != 0, p.m[r][c].Sign() != 0)
		}
	}
}

// note counts what a step does at a place.
func (p *pivoting) note(at [2]int, before, behind bool) {
	switch _, met := p.gone[at]; {
	case !before && behind:
		p.fill++
		if met {
			p.again++
		}
		p.filled[at] = struct{}{}
	case before && !behind:
		if _, met := p.filled[at]; met {
			p.gone[at] = struct{}{}
		}
	}
}

// pivotsOf makes all steps.
func pivotsOf(g grid) *pivoting {
	p := &pivoting{m: g.full(), filled: map[[2]int]struct{}{}, gone: map[[2]int]struct{}{}}
	for r := range g.at {
		p.rows = append(p.rows, r)
	}
	for c := range g.width {
		p.cols = append(p.cols, c)
	}
	for row, col, ok := p.next(); ok; row, col, ok = p.next() {
		p.take(row, col)
	}
	return p
}

func plainPivots(h held) answer {
	if e := plainFault(h.a, false); e != api.OK {
		return answer{e: e}
	}
	p := pivotsOf(gridIn(h.a))
	return answer{pivots: p.pivots, n: p.fill}
}

// dual is a node's value and its derivatives by the inputs.
type dual struct {
	v *big.Rat
	d []*big.Rat
}

// operandsOf are the nodes that a node uses, place by place.
func operandsOf(op api.Op) []int {
	switch op.Kind {
	case api.OpAdd, api.OpSub, api.OpMul, api.OpDiv:
		return []int{op.A, op.B}
	case api.OpNeg, api.OpPow:
		return []int{op.A}
	}
	return nil
}

// liveOf tells of each node whether an output hangs on it.
func liveOf(x api.Tape) []bool {
	live := make([]bool, len(x.Ops))
	for _, n := range x.Outs {
		live[n] = true
	}
	for n := len(x.Ops) - 1; n >= 0; n-- {
		for _, k := range operandsOf(x.Ops[n]) {
			live[k] = live[k] || live[n]
		}
	}
	return live
}

// raised is a^n; a is not 0, or n not below 0.
func raised(a *big.Rat, n int) *big.Rat {
	z := big.NewRat(1, 1)
	for range max(n, -n) {
		z.Mul(z, a)
	}
	if n < 0 {
		z.Inv(z)
	}
	return z
}

// work is a node's dual; false if it is a pole.
func work(op api.Op, l []dual, at []*big.Rat) (dual, bool) {
	z := dual{new(big.Rat), make([]*big.Rat, len(at))}
	chain := func(f func(j int) *big.Rat) dual {
		for j := range at {
			z.d[j] = f(j)
		}
		return z
	}
	mul := func(a, b *big.Rat) *big.Rat { return new(big.Rat).Mul(a, b) }
	switch op.Kind {
	case api.OpInput:
		z.v = at[op.A]
		return chain(func(j int) *big.Rat {
			if j == op.A {
				return big.NewRat(1, 1)
			}
			return new(big.Rat)
		}), true
	case api.OpConst:
		z.v = bigOf(op.C)
		return chain(func(int) *big.Rat { return new(big.Rat) }), true
	case api.OpNeg:
		z.v.Neg(l[op.A].v)
		return chain(func(j int) *big.Rat { return new(big.Rat).Neg(l[op.A].d[j]) }), true
	case api.OpPow:
		a := l[op.A]
		if a.v.Sign() == 0 && op.N < 0 {
			return dual{}, false
		}
		z.v = raised(a.v, op.N)
		return chain(func(j int) *big.Rat {
			if op.N == 0 {
				return new(big.Rat)
			}
			return mul(mul(big.NewRat(int64(op.N), 1), raised(a.v, op.N-1)), a.d[j])
		}), true
	}
	a, b := l[op.A], l[op.B]
	switch op.Kind {
	case api.OpAdd:
		z.v.Add(a.v, b.v)
		return chain(func(j int) *big.Rat { return new(big.Rat).Add(a.d[j], b.d[j]) }), true
	case api.OpSub:
		z.v.Sub(a.v, b.v)
		return chain(func(j int) *big.Rat { return new(big.Rat).Sub(a.d[j], b.d[j]) }), true
	case api.OpMul:
		z.v.Mul(a.v, b.v)
		return chain(func(j int) *big.Rat { return new(big.Rat).Add(mul(a.d[j], b.v), mul(a.v, b.d[j])) }), true
	}
	if b.v.Sign() == 0 {
		return dual{}, false
	}
	z.v.Quo(a.v, b.v)
	return chain(func(j int) *big.Rat {
		n := new(big.Rat).Sub(mul(a.d[j], b.v), mul(a.v, b.d[j]))
		return n.Quo(n, mul(b.v, b.v))
	}), true
}

// duals are those of the outputs; or the least pole and true.
func duals(x api.Tape, at []*big.Rat) ([]dual, int, bool) {
	live := liveOf(x)
	l := make([]dual, len(x.Ops))
	for n, op := range x.Ops {
		if !live[n] {
			continue
		}
		z, ok := work(op, l, at)
		if !ok {
			return nil, n, true
		}
		l[n] = z
	}
	var outs []dual
	for _, n := range x.Outs {
		outs = append(outs, l[n])
	}
	return outs, 0, false
}

// plainNewton makes Newton's steps by the chapter's words.
func plainNewton(h held) answer {
	if place, e := tape.Check(h.x); e != api.OK {
		return answer{n: place, e: e}
	}
	if len(h.at) != h.x.Inputs {
		return answer{e: api.ErrPoint}
	}
	for i, r := range h.at {
		if !rational.May(r) {
			return answer{n: i, e: api.ErrRat}
		}
	}
	switch {
	case h.steps < 0 || h.steps > 32:
		return answer{e: api.ErrArg}
	case len(h.x.Outs) != h.x.Inputs:
		return answer{e: api.ErrShape}
	}
	return answer{walk: plainWalk(h)}
}

func plainWalk(h held) api.Walk {
	var w api.Walk
	end := func(kind, node int) api.Walk {
		w.End, w.Node = kind, node
		return w
	}
	x := bigsOf(h.at)
	for made := 0; ; made++ {
		point := ratsOf(x)
		w.Points = append(w.Points, point)
		if node, large, _ := tape.LargeSum(h.x, point, nil, slices.Repeat(nums("1"), len(h.x.Outs))); large {
			return end(api.WalkLarge, node)
		}
		outs, node, pole := duals(h.x, x)
		if pole {
			return end(api.WalkPole, node)
		}
		var f []*big.Rat
		var m [][]*big.Rat
		for _, z := range outs {
			f, m = append(f, z.v), append(m, z.d)
		}
		if !slices.ContainsFunc(f, func(v *big.Rat) bool { return v.Sign() != 0 }) {
			return end(api.WalkFound, 0)
		}
		if made == h.steps {
			return end(api.WalkLeft, 0)
		}
		entries := gridBy(len(m), len(x), func(r, c int) *big.Rat {
			if m[r][c].Sign() == 0 {
				return nil
			}
			return m[r][c]
		})
		if plainWeight(entries.matrix(), ratsOf(f)) > 32768 {
			return end(api.WalkLarge, len(h.x.Ops)+1)
		}
		if determinantOf(m).Sign() == 0 {
			return end(api.WalkSingular, 0)
		}
		y := solvedBy(m, len(x), f)
		next := make([]*big.Rat, len(x))
		for i := range x {
			next[i] = new(big.Rat).Sub(x[i], y[i])
		}
		x = next
	}
}
