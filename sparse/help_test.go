package sparse_test

import (
	"fmt"
	"math/big"
	"slices"
	"strings"
	"testing"

	"slope/api"
	"slope/rational"
	"slope/sparse"
)

// dice throws numbers that are the same in every run.
type dice uint64

func (d *dice) next(n int) int {
	*d = *d*6364136223846793005 + 1442695040888963407
	return int(uint32(*d>>32)) % n
}

// pick is one of a list.
func pick[T any](d *dice, l ...T) T { return l[d.next(len(l))] }

// shuffled is a list in another order.
func shuffled[T any](d *dice, l []T) []T {
	z := slices.Clone(l)
	for i := range z {
		j := i + d.next(len(z)-i)
		z[i], z[j] = z[j], z[i]
	}
	return z
}

// num reads a number.
func num(s string) api.Rat {
	r, _, e := rational.Parse(s)
	if e != api.OK {
		panic(s)
	}
	return r
}

// nums reads numbers that blanks stand between.
func nums(s string) []api.Rat {
	var l []api.Rat
	for _, word := range strings.Fields(s) {
		l = append(l, num(word))
	}
	return l
}

// ints reads whole numbers that blanks stand between.
func ints(s string) []int {
	var l []int
	for _, r := range nums(s) {
		n, _ := rational.Int(r)
		l = append(l, n)
	}
	return l
}

// pat is the pattern of these places, "0,1 2,1".
func pat(rows, width int, places string) api.Pattern {
	s := blank(rows, width)
	for _, word := range strings.Fields(places) {
		var r, c int
		fmt.Sscanf(word, "%d,%d", &r, &c)
		s.at[r][c] = one()
	}
	return s.pattern()
}

// mat is the matrix of these entries, "0,1=2/3 2,1=0".
func mat(rows, width int, entries string) api.Matrix {
	s := blank(rows, width)
	for _, word := range strings.Fields(entries) {
		var r, c int
		at, val, _ := strings.Cut(word, "=")
		fmt.Sscanf(at, "%d,%d", &r, &c)
		s.at[r][c] = bigOf(num(val))
	}
	return s.matrix()
}

// show is a number in base 16; of one that may not be its limbs.
func show(r api.Rat) string {
	if !rational.May(r) {
		return fmt.Sprintf("%v %x/%x", r.Neg, []uint32(r.Num), []uint32(r.Den))
	}
	return bigText(bigOf(r))
}

// bigText is a number in base 16.
func bigText(r *big.Rat) string {
	if r.IsInt() {
		return r.Num().Text(16)
	}
	return r.Num().Text(16) + "/" + r.Denom().Text(16)
}

// row is numbers for comparing and for messages.
func row(l []api.Rat) string {
	var z []string
	for _, r := range l {
		z = append(z, show(r))
	}
	return "(" + strings.Join(z, " ") + ")"
}

// showPattern is a pattern for comparing and for messages.
func showPattern(p api.Pattern) string { return fmt.Sprint(p.Rows, "x", p.Width, p.Start, p.Cols) }

// short is the beginning of a long message.
func short(s string) string {
	if len(s) > 400 {
		return s[:400] + fmt.Sprintf(".. (%d bytes)", len(s))
	}
	return s
}

// bigOf is a number in the library's form.
func bigOf(r api.Rat) *big.Rat {
	z := new(big.Rat).SetFrac(bigNat(r.Num), bigNat(r.Den))
	if r.Neg {
		z.Neg(z)
	}
	return z
}

// bigNat is a natural in the library's form.
func bigNat(n api.Nat) *big.Int {
	b := make([]byte, 4*len(n))
	for i, limb := range n {
		for j := range 4 {
			b[len(b)-1-4*i-j] = byte(limb >> (8 * j))
		}
	}
	return new(big.Int).SetBytes(b)
}

// ratOf is one of the library's numbers.
func ratOf(r *big.Rat) api.Rat {
	nat := func(n *big.Int) api.Nat {
		var z api.Nat
		b := n.Bytes()
		for i := range b {
			if i%4 == 0 {
				z = append(z, 0)
			}
			z[i/4] |= uint32(b[len(b)-1-i]) << (8 * (i % 4))
		}
		return z
	}
	return api.Rat{Neg: r.Sign() < 0, Num: nat(r.Num()), Den: nat(r.Denom())}
}

// twoTo is 2^n + more.
func twoTo(n uint, more int64) api.Rat {
	z := new(big.Int).Lsh(big.NewInt(1), n)
	return ratOf(new(big.Rat).SetInt(z.Add(z, big.NewInt(more))))
}

// minus is a number with the other sign.
func minus(r api.Rat) api.Rat {
	r.Neg = !r.Neg
	return r
}

// under is 1 over a number above 0.
func under(r api.Rat) api.Rat {
	r.Num, r.Den = r.Den, r.Num
	return r
}

// wrongNumbers are numbers that may not be.
func wrongNumbers() []api.Rat {
	return []api.Rat{
		{}, {Num: api.Nat{1}}, {Num: api.Nat{2}, Den: api.Nat{4}}, {Neg: true, Den: api.Nat{1}}, {Den: api.Nat{2}}, {Num: api.Nat{1, 0}, Den: api.Nat{1}}, {Num: api.Nat{1}, Den: api.Nat{3, 0}}, {Num: append(make(api.Nat, api.MaxLimbs), 1), Den: api.Nat{1}},
	}
}

// must fails if an answer is an error.
func must[T any](t *testing.T, what string) func(z T, e api.Errno) T {
	t.Helper()
	return func(z T, e api.Errno) T {
		t.Helper()
		if e != api.OK {
			t.Fatalf("%s: error %d", what, e)
		}
		return z
	}
}

// samePattern fails if two patterns are not the same, or may not be.
func samePattern(t *testing.T, what string, a, b api.Pattern) {
	t.Helper()
	if !sparse.May(a) || showPattern(a) != showPattern(b) {
		t.Fatalf("%s: %s and %s", what, short(showPattern(a)), short(showPattern(b)))
	}
}

// pattern is one at random of that size: empty, thin, half full, nearly full, full.
func (d *dice) pattern(rows, width int) api.Pattern {
	return d.sheet(rows, width).pattern()
}

// matrix is one at random of that size.
func (d *dice) matrix(rows, width int) api.Matrix { return d.sheet(rows, width).matrix() }

// number is one at random, often 0.
func (d *dice) number() api.Rat {
	return num(pick(d, "0", "0", "1", "-1", "2", "1/2", "-1/2", "2/3", "-7/5", "18446744073709551617/6", fmt.Sprintf("%d/13", 1+13*d.next(100))))
}

// sheet is a plain matrix at random.
func (d *dice) sheet(rows, width int) sheet {
	s := blank(rows, width)
	full := pick(d, 0, 1, 1, 2, 3, 5, 9, 10)
	skip := d.next(max(rows, 1)) // a row without any place, in some
	for r := range rows {
		for c := range width {
			if d.next(10) < full && (r != skip || full == 10) {
				s.at[r][c] = bigOf(d.number())
			}
		}
	}
	return s
}

// order is an order of n things at random.
func (d *dice) order(n int) []int {
	l := make([]int, n)
	for i := range l {
		l[i] = i
	}
	if d.next(4) == 0 {
		return l
	}
	return shuffled(d, l)
}

// side is a number of rows or columns at random, mostly a small one.
func (d *dice) side() int { return pick(d, 0, 1, 1, 2, 2, 3, 3, 4, 5, 6, 7) }
