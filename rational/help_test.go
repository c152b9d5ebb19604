package rational_test

import (
	"encoding/binary"
	"fmt"
	"math/big"
	"slices"
	"testing"

	"slope/api"
)

// limbs is the list of a number of another library.
func limbs(v *big.Int) api.Nat {
	z := make(api.Nat, (v.BitLen()+31)/32)
	b := v.FillBytes(make([]byte, 4*len(z)))
	for i := range z {
		z[i] = binary.BigEndian.Uint32(b[4*(len(z)-1-i):])
	}
	return z
}

// natValue is what a list of limbs is worth, as that library reckons it.
func natValue(n api.Nat) *big.Int {
	b := make([]byte, 4*len(n))
	for i, limb := range n {
		binary.BigEndian.PutUint32(b[4*(len(n)-1-i):], limb)
	}
	return new(big.Int).SetBytes(b)
}

// number is a number of that library, in lowest terms.
func number(v *big.Rat) api.Rat {
	return api.Rat{Neg: v.Sign() < 0, Num: limbs(new(big.Int).Abs(v.Num())), Den: limbs(v.Denom())}
}

// value is what a number is worth there.
func value(r api.Rat) *big.Rat {
	v := new(big.Rat).SetFrac(natValue(r.Num), natValue(r.Den))
	if r.Neg {
		v.Neg(v)
	}
	return v
}

// num is the number of a text without a sign or zeros ahead of its digits but for a -.
func num(s string) api.Rat {
	v, ok := new(big.Rat).SetString(s)
	if !ok {
		panic("no number: " + s)
	}
	return number(v)
}

// nums are the numbers of texts.
func nums(l ...string) []api.Rat {
	var z []api.Rat
	for _, s := range l {
		z = append(z, num(s))
	}
	return z
}

// two is 2^k.
func two(k int) *big.Int { return new(big.Int).Lsh(big.NewInt(1), uint(k)) }

// less is n less k.
func less(n *big.Int, k int64) *big.Int { return new(big.Int).Sub(n, big.NewInt(k)) }

// over is a quotient of two whole numbers.
func over(n, d *big.Int) api.Rat { return number(new(big.Rat).SetFrac(n, d)) }

// wholeOf is a whole number.
func wholeOf(n *big.Int) api.Rat { return over(n, big.NewInt(1)) }

// negative is the number with the other sign.
func negative(r api.Rat) api.Rat { return number(new(big.Rat).Neg(value(r))) }

// top is the greatest natural, 2^65536 - 1.
func top() *big.Int { return less(two(65536), 1) }

// show is a number for a message.
func show(r api.Rat) string {
	if len(r.Num)+len(r.Den) > 12 {
		return fmt.Sprintf("%v, %d limbs over %d", r.Neg, len(r.Num), len(r.Den))
	}
	return fmt.Sprintf("%v, %v over %v", r.Neg, r.Num, r.Den)
}

// same tells whether two numbers are written in the same way.
func same(a, b api.Rat) bool {
	return a.Neg == b.Neg && slices.Equal(a.Num, b.Num) && slices.Equal(a.Den, b.Den)
}

// empty tells whether it is the zero value that stands beside an error.
func empty(r api.Rat) bool { return same(r, api.Rat{}) }

// tooLarge tells whether a number's size is above MaxLimbs.
func tooLarge(v *big.Rat) bool { return v.Num().BitLen() > 65536 || v.Denom().BitLen() > 65536 }

// wantValue fails if it is not that number in its one form, or ErrBig alone, if that is too large.
func wantValue(t *testing.T, what string, got api.Rat, e api.Errno, want *big.Rat) {
	t.Helper()
	if tooLarge(want) {
		wantErr(t, what, got, e, api.ErrBig)
	} else if e != api.OK || !same(got, number(want)) {
		t.Errorf("%s: (%s), error %d, want (%s)", what, show(got), e, show(number(want)))
	}
}

// wantText is wantValue for a text.
func wantText(t *testing.T, what string, got api.Rat, e api.Errno, want string) {
	t.Helper()
	wantValue(t, what, got, e, value(num(want)))
}

// wantErr fails if it is not that error with a zero value beside it.
func wantErr(t *testing.T, what string, got api.Rat, e api.Errno, want api.Errno) {
	t.Helper()
	if e != want || !empty(got) {
		t.Errorf("%s: (%s), error %d, want error %d alone", what, show(got), e, want)
	}
}

// dice throws numbers that are the same in every run.
type dice uint64

func (d *dice) next() uint32 {
	*d = *d*6364136223846793005 + 1442695040888963407
	return uint32(*d >> 32)
}

// nat is a natural above 0 of at most that many limbs: any limbs, or long runs of 0 and of the greatest.
func (d *dice) nat(n int) *big.Int {
	z := make(api.Nat, n)
	runs := d.next()%2 == 0
	for i := range z {
		z[i] = d.next()
		if runs {
			z[i] = -(z[i] >> 31)
		}
	}
	z[0] |= 1
	return natValue(z)
}

// rat is a number of at most that many limbs above and below.
func (d *dice) rat(n, m int) api.Rat {
	v := new(big.Rat).SetFrac(d.nat(n), d.nat(m))
	if d.next()%2 == 0 {
		v.Neg(v)
	}
	return number(v)
}

// small are the numbers of small nums and dens.
func small() []api.Rat {
	var l []api.Rat
	for d := range int64(7) {
		for n := int64(-10); n <= 10; n++ {
			v := big.NewRat(n, d+1)
			if v.Denom().Int64() == d+1 {
				l = append(l, number(v))
			}
		}
	}
	return l
}

// medium are numbers of some limbs, many with divisors in common.
func medium() []api.Rat {
	d := dice(2)
	f := d.nat(3)
	l := nums("0", "1", "-1", "1/2", "4294967296", "1/4294967296", "4294967295/4294967297", "-18446744073709551616/3", "18446744073709551615/2")
	for _, n := range []int{1, 2, 3, 5, 40} {
		l = append(l, d.rat(n, n), d.rat(n, 1), d.rat(1, n))
		a, b := value(d.rat(n, n)), value(d.rat(n, n))
		l = append(l, number(a.Mul(a, new(big.Rat).SetInt(f))), number(b.Quo(b, new(big.Rat).SetInt(f))))
	}
	return l
}

// large are numbers near the greatest sizes.
func large() []api.Rat {
	d := dice(3)
	f := d.nat(1000)
	g := new(big.Int).Mul(f, d.nat(1048))
	h := new(big.Int).Mul(f, d.nat(1030))
	odd := less(two(65535), 19)
	return []api.Rat{
		wholeOf(top()), wholeOf(two(65535)), over(big.NewInt(-1), two(65535)), over(big.NewInt(1), top()),
		over(top(), big.NewInt(2)), negative(over(less(two(65536), 3), big.NewInt(2))),
		over(g, less(h, 2)), negative(over(odd, g)), over(d.nat(1900), h), over(big.NewInt(5), g),
	}
}

// wrong are numbers that may not be.
func wrong() []api.Rat {
	long := slices.Repeat(api.Nat{1<<32 - 1}, api.MaxLimbs+1)
	one := api.Nat{1}
	return []api.Rat{
		{}, {Neg: true}, {Num: one}, {Den: api.Nat{0}}, {Num: one, Den: api.Nat{0}},
		{Den: api.Nat{2}}, {Neg: true, Den: one}, {Den: api.Nat{7, 7}},
		{Num: api.Nat{2}, Den: api.Nat{4}}, {Num: api.Nat{6}, Den: api.Nat{3}}, {Num: api.Nat{5}, Den: api.Nat{5}},
		{Neg: true, Num: api.Nat{9, 9, 9}, Den: api.Nat{3}}, {Num: api.Nat{0, 1}, Den: api.Nat{0, 0, 1}},
		{Num: api.Nat{1, 0}, Den: one}, {Num: one, Den: api.Nat{1, 0}}, {Num: api.Nat{0}, Den: one},
		{Num: long, Den: one}, {Num: one, Den: long}, {Num: make(api.Nat, 2049), Den: one}, {Neg: true, Num: long, Den: long},
	}
}
