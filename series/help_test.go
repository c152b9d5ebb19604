package series_test

import (
	"fmt"
	"math/big"
	"strings"
	"testing"

	"slope/api"
	"slope/rational"
	"slope/tape"
)

// dice throws numbers that are the same in every run.
type dice uint64

func (d *dice) next(n int) int {
	*d = *d*6364136223846793005 + 1442695040888963407
	return int(uint32(*d>>32)) % n
}

// pick is one of a list.
func pick[T any](d *dice, l ...T) T { return l[d.next(len(l))] }

// num reads a number.
func num(s string) api.Rat {
	r, _, e := rational.Parse(s)
	if e != api.OK {
		panic(s)
	}
	return r
}

// nums reads numbers that blanks stand between.
func nums(s string) []api.Rat {
	var l []api.Rat
	for _, word := range strings.Fields(s) {
		l = append(l, num(word))
	}
	return l
}

// must is the tape whose text has these lines, with ; between them.
func must(t *testing.T, text string) api.Tape {
	t.Helper()
	x, at, e := tape.Parse(strings.ReplaceAll(text, "; ", "\n") + "\n")
	if e != api.OK {
		t.Fatalf("tape.Parse(%q): place %d, error %d", short(text), at, e)
	}
	return x
}

// geometric is the chapter's tape: 1 / (1 - x).
func geometric(t *testing.T) api.Tape {
	t.Helper()
	return must(t, "inputs 1; in 0; const 1; sub 1 0; div 1 2; out 3")
}

// short is the beginning of a long message.
func short(s string) string {
	if len(s) > 400 {
		return s[:400] + fmt.Sprintf(".. (%d bytes)", len(s))
	}
	return s
}

// showTape is a tape for messages: its text, where it has one.
func showTape(t api.Tape) string {
	s, e := tape.Print(t)
	if e != api.OK {
		return short(fmt.Sprint(t))
	}
	return short(strings.ReplaceAll(s, "\n", "; "))
}

// show is a number; of one that may not be its lists. It is in base 16: that of long ones is read off their limbs.
func show(r api.Rat) string {
	if !rational.May(r) {
		return fmt.Sprintf("%v %x/%x", r.Neg, []uint32(r.Num), []uint32(r.Den))
	}
	return bigOf(r).text()
}

// row is numbers for comparing and for messages.
func row(l []api.Rat) string {
	var z []string
	for _, r := range l {
		z = append(z, show(r))
	}
	return strings.Join(z, " ")
}

// rows are lists of numbers; how many there are and how long each is shows too.
func rows(l [][]api.Rat) string {
	var z strings.Builder
	for _, r := range l {
		fmt.Fprintf(&z, "(%s)", row(r))
	}
	return z.String()
}

// wantRow fails if an answer is not these numbers, or is an error.
func wantRow(t *testing.T, what string, l []api.Rat, e api.Errno, want string) {
	t.Helper()
	if e != api.OK || row(l) != want {
		t.Errorf("%s: %s, error %d, want %s", what, short(row(l)), e, short(want))
	}
}

// wantRows fails if an answer is not these lists, or is an error.
func wantRows(t *testing.T, what string, l [][]api.Rat, place int, e api.Errno, want ...string) {
	t.Helper()
	var z [][]api.Rat
	for _, s := range want {
		z = append(z, nums(s))
	}
	if place != 0 || e != api.OK || rows(l) != rows(z) {
		t.Errorf("%s: %s, place %d, error %d, want %s", what, short(rows(l)), place, e, short(rows(z)))
	}
}

// number is one of the library's.
type number struct{ *big.Rat }

// text is a number in base 16.
func (r number) text() string {
	if r.IsInt() {
		return r.Num().Text(16)
	}
	return r.Num().Text(16) + "/" + r.Denom().Text(16)
}

// bigOf is a number in the library's form.
func bigOf(r api.Rat) number {
	z := new(big.Rat).SetFrac(bigNat(r.Num), bigNat(r.Den))
	if r.Neg {
		z.Neg(z)
	}
	return number{z}
}

// bigNat is a natural in the library's form.
func bigNat(n api.Nat) *big.Int {
	b := make([]byte, 4*len(n))
	for i, limb := range n {
		for j := range 4 {
			b[len(b)-1-4*i-j] = byte(limb >> (8 * j))
		}
	}
	return new(big.Int).SetBytes(b)
}

// ratOf is one of the library's numbers.
func ratOf(r *big.Rat) api.Rat {
	nat := func(n *big.Int) api.Nat {
		var z api.Nat
		b := n.Bytes()
		for i := range b {
			if i%4 == 0 {
				z = append(z, 0)
			}
			z[i/4] |= uint32(b[len(b)-1-i]) << (8 * (i % 4))
		}
		return z
	}
	return api.Rat{Neg: r.Sign() < 0, Num: nat(r.Num()), Den: nat(r.Denom())}
}

// bits is a number at random of just so many bits above and below, in lowest terms; no bit above is 0.
func (d *dice) bits(num, den int) api.Rat {
	draw := func(bits int) *big.Int {
		z := new(big.Int)
		for z.BitLen() < bits {
			// the top bit is set, the others are thrown
			word := big.NewInt(int64(d.next(1 << 30)))
			z.Lsh(z, 30).Or(z, word)
			if z.BitLen() == 0 {
				z.SetInt64(1)
			}
		}
		z.Rsh(z, uint(z.BitLen()-bits))
		return z
	}
	over, under, one := draw(num), draw(den), big.NewInt(1)
	for new(big.Int).GCD(nil, nil, over, under).Cmp(one) != 0 {
		over = draw(num)
		if under.BitLen() > 1 {
			under = draw(den)
		}
	}
	r := new(big.Rat).SetFrac(over, under)
	if d.next(2) == 0 {
		r.Neg(r)
	}
	return ratOf(r)
}

// operandsOf are the nodes that a node uses, place by place.
func operandsOf(op api.Op) []int {
	switch op.Kind {
	case api.OpAdd, api.OpSub, api.OpMul, api.OpDiv:
		return []int{op.A, op.B}
	case api.OpNeg, api.OpPow:
		return []int{op.A}
	}
	return nil
}

// tape is one at random: inputs at several nodes or at none, nodes at both places of others, nodes that are not live, outputs of all kinds.
func (d *dice) tape(most int) api.Tape {
	t := api.Tape{Inputs: d.next(4)}
	for n := 1 + d.next(most); len(t.Ops) < n; {
		t.Ops = append(t.Ops, d.op(t.Inputs, len(t.Ops)))
	}
	for n := 1 + d.next(4); len(t.Outs) < n; {
		// mostly late nodes, which hang on many
		t.Outs = append(t.Outs, len(t.Ops)-1-d.next(pick(d, 1, min(3, len(t.Ops)), len(t.Ops))))
	}
	return t
}

// op is a node at random behind so many others.
func (d *dice) op(inputs, ahead int) api.Op {
	kind := api.Kind(1 + d.next(8))
	if inputs > 0 && (kind == api.OpInput || ahead < inputs && d.next(3) > 0) {
		return api.Op{Kind: api.OpInput, A: d.next(inputs)}
	}
	if kind <= api.OpConst || ahead == 0 {
		return api.Op{Kind: api.OpConst, C: num(pick(d, "0", "1", "-1", "2", "2/3", "-3/2", "7", "18446744073709551616/3"))}
	}
	late := func() int { return ahead - 1 - d.next(pick(d, min(3, ahead), ahead)) }
	a := late()
	switch kind {
	case api.OpNeg:
		return api.Op{Kind: kind, A: a}
	case api.OpPow:
		return api.Op{Kind: kind, A: a, N: pick(d, -3, -2, -1, 0, 1, 2, 3, 4)}
	}
	return api.Op{Kind: kind, A: a, B: pick(d, a, late(), late(), late())}
}

// point is one at random for so many inputs.
func (d *dice) point(n int) []api.Rat {
	var l []api.Rat
	for range n {
		l = append(l, num(pick(d, "0", "1", "-1", "2", "1/2", "-7/3", "5/4", "12345678901/7", fmt.Sprintf("%d/13", 1+13*d.next(100)))))
	}
	return l
}

// degree is one at random, mostly a small one.
func (d *dice) degree() int { return pick(d, 0, 1, 2, 2, 3, 4, d.next(api.MaxOrder+1), api.MaxOrder) }

// wrongNumbers are numbers that may not be.
func wrongNumbers() []api.Rat {
	return []api.Rat{
		{}, {Num: api.Nat{1}}, {Num: api.Nat{2}, Den: api.Nat{4}}, {Neg: true, Den: api.Nat{1}}, {Den: api.Nat{2}}, {Num: api.Nat{1, 0}, Den: api.Nat{1}}, {Num: api.Nat{1}, Den: api.Nat{3, 0}}, {Num: append(make(api.Nat, api.MaxLimbs), 1), Den: api.Nat{1}},
	}
}
