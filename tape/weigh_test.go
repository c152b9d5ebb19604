package tape_test

import (
	"fmt"
	"math/big"
	"slices"
	"testing"

	"slope/api"
	"slope/tape"
)

// weights are a list by hand.
func weights(l ...int) []api.Weight {
	var z []api.Weight
	for i := 0; i < len(l); i += 2 {
		z = append(z, api.Weight{Num: l[i], Den: l[i+1]})
	}
	return z
}

// wantWeights fails if Weigh answers something else.
func wantWeights(t *testing.T, x api.Tape, at, along []api.Rat, want []api.Weight) {
	t.Helper()
	if l, e := tape.Weigh(x, at, along); e != api.OK || !slices.Equal(l, want) {
		t.Errorf("Weigh(%s, %v, %v): %v, %d, want %v", short(show(x)), at, along, l, e, want)
	}
}

// P5.8: the chapter's example 5, a direction, each kind.
func TestWeighExamples(t *testing.T) {
	at := nums("3 -1/2")
	want := weights(5, 2, 5, 3, 11, 5, 11, 5, 18, 10, 11, 10, 3, 2)
	wantWeights(t, example(), at, nil, want)
	wantWeights(t, example(), at, []api.Rat{}, want)
	for _, v := range []string{"0 0", "1 0", "0 1", "1 1"} {
		wantWeights(t, example(), at, nums(v), want)
	}
	line := nodes(t, "inputs 2; in 0; in 1; in 0; out 0")
	wantWeights(t, line, at, nums("7/8 -100"), weights(max(2+4, 3+1, 1+4)+2, 5, max(1+1, 7+2, 2+1)+2, 3, 8, 5))
	// x of node 1 is -3/2: 2 and 2 bits; node 0: 1/5
	wantWeights(t, nodes(t, "inputs 1; const 1/5; const -3/2; add 0 1; sub 0 1; mul 0 1; div 0 1; neg 1; pow 1 3; pow 1 0; pow 1 -3; pow 1 1; pow 1 -1; const 0; in 0; out 0"), nums("0"), nil,
		weights(4, 3, 3, 2, 8, 5, 8, 5, 8, 5, 7, 6, 4, 2, 10, 6, 2, 1, 10, 9, 4, 2, 4, 3, 2, 1, max(0+1, 0+1, 1+1)+2, 2))
	wantWeights(t, nodes(t, "inputs 0; const 255; out 0"), nil, nil, weights(9, 1))
}

// bigWeight is a weight whose numbers have no bound.
type bigWeight struct{ num, den *big.Int }

// plus adds numbers.
func plus(l ...*big.Int) *big.Int {
	z := new(big.Int)
	for _, n := range l {
		z.Add(z, n)
	}
	return z
}

// greater is the greatest.
func greater(l ...*big.Int) *big.Int {
	return slices.MaxFunc(l, func(a, b *big.Int) int { return a.Cmp(b) })
}

// bitLens are the bits of a number.
func bitLens(r api.Rat) bigWeight {
	b := bigOf(r)
	return bigWeight{big.NewInt(int64(b.Num().BitLen())), big.NewInt(int64(b.Denom().BitLen()))}
}

// plainFirst is the chapter's table.
func plainFirst(op api.Op, l []bigWeight, at, along []api.Rat) bigWeight {
	whole := func(n int) *big.Int { return big.NewInt(int64(n)) }
	times := func(k int, n *big.Int) *big.Int { return new(big.Int).Mul(whole(k), n) }
	var a, b bigWeight
	if k := operandsOf(op); len(k) > 0 {
		a, b = l[k[0]], l[k[len(k)-1]]
	}
	switch op.Kind {
	case api.OpInput:
		x, v := bitLens(at[op.A]), bigWeight{whole(0), whole(1)}
		if len(along) > 0 {
			v = bitLens(along[op.A])
		}
		return bigWeight{plus(greater(plus(x.num, v.den), plus(v.num, x.den), plus(x.den, v.den)), whole(2)), plus(x.den, v.den)}
	case api.OpConst:
		return bitLens(op.C)
	case api.OpNeg:
		return a
	case api.OpAdd, api.OpSub:
		return bigWeight{plus(greater(plus(a.num, b.den), plus(b.num, a.den)), whole(1)), plus(a.den, b.den)}
	case api.OpMul:
		return bigWeight{plus(a.num, b.num), plus(a.den, b.den)}
	case api.OpDiv:
		return bigWeight{plus(a.num, b.den), plus(a.den, b.num)}
	}
	switch {
	case op.N > 0:
		return bigWeight{times(op.N, a.num), times(op.N, a.den)}
	case op.N < 0:
		return bigWeight{times(-op.N, a.den), times(-op.N, a.num)}
	}
	return bigWeight{whole(1), whole(1)}
}

// plainWeigh is the chapter's Weigh, in numbers that can't wrap.
func plainWeigh(t api.Tape, at, along []api.Rat) []api.Weight {
	most := new(big.Int).Lsh(big.NewInt(1), 40)
	least := func(n *big.Int) *big.Int {
		if n.Cmp(most) > 0 {
			return most
		}
		return n
	}
	var l []bigWeight
	var z []api.Weight
	for _, op := range t.Ops {
		w := plainFirst(op, l, at, along)
		if op.Kind != api.OpInput {
			w.num = plus(greater(w.num, w.den), big.NewInt(1))
		}
		w = bigWeight{least(w.num), least(w.den)}
		l = append(l, w)
		z = append(z, api.Weight{Num: int(w.num.Int64()), Den: int(w.den.Int64())})
	}
	return z
}

// heavy is a tape at random that grows fast.
func (d *dice) heavy() api.Tape {
	t := d.tape(30)
	for i := 1; i < len(t.Ops); i++ {
		if d.next(3) == 0 {
			t.Ops[i] = pow(i-1-d.next(min(i, 3)), pick(d, -1024, -1000, -1, 0, 1, 1023, 1024))
		}
	}
	return t
}

// P5.8, P5.9: over tapes at random.
func TestWeighPlain(t *testing.T) {
	t.Parallel()
	d := dice(6)
	full, large, sums := 0, 0, 0
	for i := range 4000 {
		x := d.tape(20)
		if i%2 == 0 {
			x = d.heavy()
		}
		at, along := d.point(x.Inputs), d.point(x.Inputs)
		if d.next(2) == 0 {
			along = nil
		}
		want := plainWeigh(x, at, along)
		wantWeights(t, x, at, along, want)
		if slices.ContainsFunc(want, func(w api.Weight) bool { return w.Num == api.MaxWeight && w.Den == api.MaxWeight }) {
			full++
		}
		n, found := plainLarge(x, want)
		wantLarge(t, x, at, along, n, found)
		w := d.point(len(x.Outs))
		blend, _ := tape.Blend(x, w)
		sum := plainWeigh(blend, at, along)[len(blend.Ops)-1]
		if found {
			large++
		} else if sum.Num > api.MaxBits || sum.Den > api.MaxBits {
			n, found = len(x.Ops), true
			sums++
		}
		wantLargeSum(t, x, at, along, w, n, found)
	}
	if full < 50 || large < 100 || sums < 3 {
		t.Errorf("%d weights at their greatest, %d large tapes, %d large sums", full, large, sums)
	}
}

// plainLarge is the least live node above MaxBits.
func plainLarge(t api.Tape, l []api.Weight) (int, bool) {
	for n := range t.Ops {
		alive := slices.ContainsFunc(t.Outs, func(out int) bool { return hangs(t, out, n) })
		if alive && (l[n].Num > 8192 || l[n].Den > 8192) {
			return n, true
		}
	}
	return 0, false
}

// wantLarge fails if Large answers something else.
func wantLarge(t *testing.T, x api.Tape, at, along []api.Rat, n int, found bool) {
	t.Helper()
	if got, ok, e := tape.Large(x, at, along); got != n || ok != found || e != api.OK {
		t.Errorf("Large(%s): %d, %v, %d, want %d, %v", short(show(x)), got, ok, e, n, found)
	}
}

// wantLargeSum fails if LargeSum answers something else.
func wantLargeSum(t *testing.T, x api.Tape, at, along, w []api.Rat, n int, found bool) {
	t.Helper()
	if got, ok, e := tape.LargeSum(x, at, along, w); got != n || ok != found || e != api.OK {
		t.Errorf("LargeSum(%s): %d, %v, %d, want %d, %v", short(show(x)), got, ok, e, n, found)
	}
}

// chainTo is a tape of powers and negatives, with a point of one whole number, whose last node alone has a Num of so much ahead of the bound.
func chainTo(want int) (api.Tape, []api.Rat) {
	var ops []api.Op
	for want > 60000 {
		k := 1024
		for (want-1)%k != 0 {
			k--
		}
		ops = append(ops, pow(0, k))
		want = (want - 1) / k
	}
	// an input of n bits over 1 weighs n + 3
	x := api.Tape{Inputs: 1, Ops: []api.Op{in(0)}}
	for i, op := range slices.Backward(ops) {
		op.A = len(ops) - 1 - i
		x.Ops = append(x.Ops, op)
	}
	x.Outs = []int{len(ops)}
	return x, []api.Rat{power2(want - 4)}
}

// P5.8: weights at MaxWeight, one less and one more, above and below.
func TestWeighEdge(t *testing.T) {
	for _, want := range []int{1<<40 - 2, 1<<40 - 1, 1 << 40, 1<<40 + 1, 1<<40 + 2, 1 << 45, 1 << 50} {
		x, at := chainTo(want)
		n := len(x.Ops) - 1
		x.Ops = append(x.Ops, neg(n), two(api.OpAdd, n, n), two(api.OpMul, n, n), pow(n, -1), pow(n, -1024), two(api.OpDiv, n, n), two(api.OpDiv, n+4, n), two(api.OpSub, n+4, n+4))
		l, e := tape.Weigh(x, at, nil)
		if e != api.OK || l[n].Num != min(want, 1<<40) {
			t.Fatalf("%d: %v, %d", want, l, e)
		}
		wantWeights(t, x, at, nil, plainWeigh(x, at, nil))
		if l[n+4].Den != 1<<40 && want >= 1<<40 || l[n+5] != (api.Weight{Num: 1 << 40, Den: 1 << 40}) {
			t.Errorf("%d: powers below 0: %v", want, l)
		}
	}
}

// P5.8: a tape of as many nodes as there may be doesn't wrap.
func TestWeighLong(t *testing.T) {
	x := api.Tape{Inputs: 1, Ops: []api.Op{in(0)}, Outs: []int{0}}
	for i := range api.MaxNodes - 1 {
		x.Ops = append(x.Ops, pow(i, 1024-2048*(i%2)))
	}
	l, e := tape.Weigh(x, nums("3"), nil)
	if e != api.OK || len(l) != api.MaxNodes || l[api.MaxNodes-1].Num != api.MaxWeight {
		t.Errorf("%d weights, %d", len(l), e)
	}
	wantLarge(t, x, nums("3"), nil, 0, false)
}

// P5.9: a node at MaxBits and one above, live and not.
func TestLargeEdge(t *testing.T) {
	for _, c := range []struct {
		op   api.Op
		want bool
	}{
		{api.Op{Kind: api.OpConst, C: power2(8190)}, false}, {api.Op{Kind: api.OpConst, C: power2(8191)}, true},
		{api.Op{Kind: api.OpConst, C: over(power2(8190))}, false}, {api.Op{Kind: api.OpConst, C: over(power2(8191))}, true},
	} {
		x := api.Tape{Ops: []api.Op{constant("1"), c.op, neg(0)}, Outs: []int{2, 1}}
		n := 0
		if c.want {
			n = 1
		}
		wantLarge(t, x, nil, nil, n, c.want)
		x.Outs = []int{2}
		wantLarge(t, x, nil, nil, 0, false)
		wantLargeSum(t, x, nil, nil, nums("1"), 0, false)
	}
	one := nodes(t, "inputs 2; in 1; in 0; out 1")
	wantLarge(t, one, []api.Rat{power2(8188), power2(60000)}, nil, 0, false)
	wantLarge(t, one, []api.Rat{power2(8189), power2(60000)}, nil, 1, true)
	wantLarge(t, one, []api.Rat{over(power2(8188)), power2(60000)}, nil, 0, false)
	wantLarge(t, one, []api.Rat{over(power2(8189)), power2(60000)}, nil, 1, true)
	wantLarge(t, one, nums("1 1"), []api.Rat{power2(8188), power2(60000)}, 0, false)
	wantLarge(t, one, nums("1 1"), []api.Rat{power2(8189), power2(60000)}, 1, true)
	wantLarge(t, one, nums("1 1"), []api.Rat{over(power2(8188)), num("1")}, 0, false)
	wantLarge(t, one, nums("1 1"), []api.Rat{over(power2(8189)), num("1")}, 1, true)
	one.Outs = []int{1, 0}
	wantLarge(t, one, []api.Rat{power2(60000), power2(60000)}, nil, 0, true)
}

// P5.9: no live node is large, but the sum is.
func TestLargeSumEdge(t *testing.T) {
	// a weight 1 weighs 2 over 1, a product of it 3 more
	for _, c := range []struct {
		bits int
		w    string
		want bool
	}{{8188 - 3, "1", false}, {8189 - 3, "1", false}, {8190 - 3, "1", true}, {8191 - 3, "0", true}, {8189 - 3, "0", false}, {8189 - 3, "-1", false}, {8189 - 3, "2", true}, {8189 - 3, "1/2", true}, {8188 - 3, "3", false}} {
		x := nodes(t, "inputs 1; in 0; out 0")
		at := []api.Rat{power2(c.bits - 1)}
		wantLarge(t, x, at, nil, 0, false)
		n := 0
		if c.want {
			n = 1
		}
		wantLargeSum(t, x, at, nil, nums(c.w), n, c.want)
	}
	x := nodes(t, "inputs 1; in 0; const 1; out 0; out 1; out 0")
	sum := func(bits int) (int, bool) {
		at := []api.Rat{power2(bits - 1)}
		n, ok, _ := tape.LargeSum(x, at, nil, nums("1 1 1"))
		return n, ok
	}
	first := 0
	for bits := 8100; bits < 8189; bits++ {
		blend, _ := tape.Blend(x, nums("1 1 1"))
		last := plainWeigh(blend, []api.Rat{power2(bits - 1)}, nil)[len(blend.Ops)-1]
		n, ok := sum(bits)
		if ok != (last.Num > 8192) || ok != (n == 2) {
			t.Errorf("%d bits: %d, %v, the sum weighs %v", bits, n, ok, last)
		}
		if ok && first == 0 {
			first = bits
		}
	}
	if first < 8110 {
		t.Errorf("the sum is large from %d bits on", first)
	}
	if n, ok := sum(8190); n != 0 || !ok {
		t.Errorf("a large node ahead of the sum: %d, %v", n, ok)
	}
}

// P5.9: the sum is weighed, however many nodes it has; a node that is large comes ahead of it.
func TestLargeSumFull(t *testing.T) {
	x := api.Tape{Ops: slices.Repeat([]api.Op{constant("1")}, api.MaxNodes), Outs: slices.Repeat([]int{7}, api.MaxOutputs)}
	one := slices.Repeat(nums("1"), api.MaxOutputs)
	if _, e := tape.Blend(x, one); e != api.ErrNodes {
		t.Errorf("Blend: %d", e)
	}
	wantLargeSum(t, x, nil, nil, one, 0, false)
	heavy := slices.Repeat([]api.Rat{over(power2(200))}, api.MaxOutputs)
	wantLargeSum(t, x, nil, nil, heavy, api.MaxNodes, true)
	x.Ops[7].C = power2(8190)
	wantLargeSum(t, x, nil, nil, one, api.MaxNodes, true)
	x.Ops[7].C = power2(8191)
	wantLargeSum(t, x, nil, nil, heavy, 7, true)
}

// P5.8, P5.9: the errors, in their order.
func TestWeighErrors(t *testing.T) {
	good, w := nums("1 2"), nums("1 2")
	for i, r := range wrongNumbers() {
		bad := []api.Rat{num("1"), r}
		for j, c := range []struct {
			at, along, w []api.Rat
			e            api.Errno
		}{
			{nil, nil, w, api.ErrPoint}, {good[:1], nil, w, api.ErrPoint}, {nums("1 2 3"), nil, w, api.ErrPoint}, {good, good[:1], w, api.ErrPoint}, {good, nums("1 2 3"), w, api.ErrPoint}, {nil, good, w, api.ErrPoint},
			{[]api.Rat{r}, nil, w, api.ErrPoint}, {bad, good[:1], w, api.ErrPoint}, {good, []api.Rat{r}, w, api.ErrPoint}, {bad, nil, w, api.ErrRat}, {good, bad, w, api.ErrRat}, {bad, bad, w, api.ErrRat},
			{nil, nil, nil, api.ErrPoint}, {bad, nil, nil, api.ErrRat}, {good, bad, nil, api.ErrRat},
		} {
			if l, e := tape.Weigh(example(), c.at, c.along); e != c.e || len(l) > 0 {
				t.Errorf("number %d, case %d: Weigh: %v, %d, want %d", i, j, l, e, c.e)
			}
			if n, ok, e := tape.Large(example(), c.at, c.along); e != c.e || n != 0 || ok {
				t.Errorf("number %d, case %d: Large: %d, %v, %d, want %d", i, j, n, ok, e, c.e)
			}
			if n, ok, e := tape.LargeSum(example(), c.at, c.along, c.w); e != c.e || n != 0 || ok {
				t.Errorf("number %d, case %d: LargeSum: %d, %v, %d, want %d", i, j, n, ok, e, c.e)
			}
		}
		for j, c := range []struct {
			w []api.Rat
			e api.Errno
		}{{nil, api.ErrWeights}, {w[:1], api.ErrWeights}, {nums("1 2 3"), api.ErrWeights}, {[]api.Rat{r}, api.ErrWeights}, {bad, api.ErrRat}} {
			// a point at which a node is large: the weights are looked at first
			for _, at := range [][]api.Rat{good, {power2(9000), num("1")}} {
				if n, ok, e := tape.LargeSum(example(), at, nil, c.w); e != c.e || n != 0 || ok {
					t.Errorf("number %d, weights %d: LargeSum: %d, %v, %d, want %d", i, j, n, ok, e, c.e)
				}
			}
		}
	}
	none := nodes(t, "inputs 0; const 1; out 0")
	if _, e := tape.Weigh(none, nil, nums("1")); e != api.ErrPoint {
		t.Errorf("a direction of no inputs: %d", e)
	}
	if _, e := tape.Weigh(none, nums("1"), nil); e != api.ErrPoint {
		t.Errorf("a point of no inputs: %d", e)
	}
}

// DOC.md: a direction of zeros and ones weighs as much as none.
func TestZerosAndOnes(t *testing.T) {
	d := dice(7)
	for range 300 {
		x := d.tape(10)
		at := d.point(x.Inputs)
		var along []api.Rat
		for range x.Inputs {
			along = append(along, num(fmt.Sprint(d.next(2))))
		}
		want, _ := tape.Weigh(x, at, nil)
		wantWeights(t, x, at, along, want)
	}
}
