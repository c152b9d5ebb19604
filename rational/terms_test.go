package rational_test

import (
	"fmt"
	"math"
	"math/big"
	"slices"
	"testing"

	"slope/api"
	"slope/rational"
)

// expectTerms is all the terms of a number, or so many of them.
func expectTerms(v *big.Rat, most int) []api.Rat {
	var l []api.Rat
	for len(l) < most {
		q := bigFloor(v)
		l = append(l, wholeOf(q))
		v = new(big.Rat).Sub(v, new(big.Rat).SetInt(q))
		if v.Sign() == 0 {
			break
		}
		v.Inv(v)
	}
	return l
}

// golden is the quotient of neighbouring Fibonacci numbers that has so many terms, two or more.
func golden(terms int) api.Rat {
	n, d := big.NewInt(2), big.NewInt(1)
	for range terms - 1 {
		n, d = new(big.Int).Add(n, d), n
	}
	return over(n, d)
}

// checkTerms holds Terms against the other library.
func checkTerms(t *testing.T, r api.Rat, most int, all bool) {
	t.Helper()
	l, ended, e := rational.Terms(r, most)
	if want := expectTerms(value(r), most); e != api.OK || ended != all || !slices.EqualFunc(l, want, same) {
		t.Errorf("Terms of %s, %d: %d terms, %v, error %d, want %d terms, %v", show(r), most, len(l), ended, e, len(want), all)
	}
}

// P2.9
func TestTerms(t *testing.T) {
	for _, c := range []struct {
		r    string
		most int
		want []api.Rat
		all  bool
	}{
		{"-7/3", 9, nums("-3", "1", "2"), true}, {"-7/3", 3, nums("-3", "1", "2"), true}, {"-7/3", 2, nums("-3", "1"), false}, {"415/93", 2, nums("4", "2"), false},
		{"415/93", 4, nums("4", "2", "6", "7"), true}, {"5", 1, nums("5"), true}, {"0", 1, nums("0"), true}, {"-5", 1024, nums("-5"), true}, {"1/2", 1, nums("0"), false}, {"-1/2", 5, nums("-1", "2"), true},
	} {
		l, all, e := rational.Terms(num(c.r), c.most)
		if e != api.OK || all != c.all || !slices.EqualFunc(l, c.want, same) {
			t.Errorf("Terms(%s, %d): %d terms, %v, error %d", c.r, c.most, len(l), all, e)
		}
	}
	for _, l := range [][]api.Rat{small(), medium()} {
		for _, r := range l {
			n := len(expectTerms(value(r), 2000))
			for _, most := range []int{1, 2, n - 1, n, n + 1, 1024} {
				if most >= 1 && most <= api.MaxTerms {
					checkTerms(t, r, most, most >= n)
				}
			}
		}
	}
	d := dice(9)
	checkTerms(t, d.rat(2048, 2047), 20, false)
	checkTerms(t, over(top(), two(65535)), 20, true)
}

// P2.9: a number of just MaxTerms terms, and one of one more.
func TestTermsAtTheBorder(t *testing.T) {
	checkTerms(t, golden(1024), 1024, true)
	checkTerms(t, golden(1024), 1023, false)
	checkTerms(t, golden(1025), 1024, false)
	for _, most := range []int{0, -1, 1025, math.MinInt, math.MaxInt} {
		for _, s := range []string{"0", "7/3"} {
			if l, all, e := rational.Terms(num(s), most); len(l) != 0 || all || e != api.ErrArg {
				t.Errorf("Terms(%s, %d): %d terms, %v, error %d", s, most, len(l), all, e)
			}
		}
	}
}

// P2.9
func TestFromTerms(t *testing.T) {
	for _, c := range []struct {
		l    []api.Rat
		want string
	}{
		{nums("-3", "1", "2"), "-7/3"}, {nums("1", "1"), "2"}, {nums("0", "5"), "1/5"}, {nums("0"), "0"}, {nums("-9"), "-9"}, {nums("0", "1"), "1"}, {nums("-1", "1"), "0"}, {nums("-1", "2"), "-1/2"},
		{nums("3", "7", "15", "1"), "355/113"}, {nums("-4", "1", "1"), "-7/2"},
	} {
		r, e := rational.FromTerms(c.l)
		wantText(t, fmt.Sprint("FromTerms of ", len(c.l)), r, e, c.want)
	}
	for _, l := range [][]api.Rat{small(), medium()} {
		for _, r := range l {
			terms, _, _ := rational.Terms(r, 1024)
			if len(terms) < 1024 {
				z, e := rational.FromTerms(terms)
				wantValue(t, "FromTerms of Terms", z, e, value(r))
			}
		}
	}
	for i, l := range [][]api.Rat{nil, {}, nums("1", "0"), nums("3", "-1"), nums("1/2"), nums("1", "3/2"), nums("1", "2", "1/2"), nums("1", "2", "0", "4"), nums("-1", "-1"), slices.Repeat(nums("1"), 1025), slices.Repeat(nums("2"), 5000)} {
		r, e := rational.FromTerms(l)
		wantErr(t, fmt.Sprint("FromTerms of no terms ", i), r, e, api.ErrArg)
	}
	r, e := rational.FromTerms(append(slices.Repeat(nums("1"), 1023), num("2")))
	wantValue(t, "FromTerms of MaxTerms terms", r, e, value(golden(1024)))
}

// P2.9: results at the border and above it.
func TestFromTermsAtTheBorder(t *testing.T) {
	half := wholeOf(two(65535))
	r, e := rational.FromTerms([]api.Rat{negative(half), num("2")})
	wantValue(t, "FromTerms down to the border", r, e, value(negative(over(top(), big.NewInt(2)))))
	r, e = rational.FromTerms([]api.Rat{half, num("2")})
	wantErr(t, "FromTerms above it", r, e, api.ErrBig)
	r, e = rational.FromTerms([]api.Rat{wholeOf(less(two(65535), 1)), num("2")})
	wantValue(t, "FromTerms up to it", r, e, value(over(top(), big.NewInt(2))))
	r, e = rational.FromTerms([]api.Rat{num("0"), half, num("2")})
	wantErr(t, "FromTerms with an end above it", r, e, api.ErrBig)
	r, e = rational.FromTerms([]api.Rat{num("-1"), half, num("2"), num("1")})
	wantErr(t, "FromTerms with two ends above it", r, e, api.ErrBig)
	r, e = rational.FromTerms([]api.Rat{num("0"), wholeOf(top())})
	wantValue(t, "FromTerms of an inverse", r, e, new(big.Rat).SetFrac(big.NewInt(1), top()))
	// 1024 terms of 64 bits make some 65536 bits, those of 65 bits more.
	r, e = rational.FromTerms(slices.Repeat([]api.Rat{wholeOf(less(two(63), 1))}, 1024))
	if e != api.OK || len(r.Num) > api.MaxLimbs || len(r.Num) < 2000 {
		t.Errorf("FromTerms of long terms: %d limbs, error %d", len(r.Num), e)
	}
	r, e = rational.FromTerms(slices.Repeat([]api.Rat{wholeOf(two(65))}, 1024))
	wantErr(t, "FromTerms of too long terms", r, e, api.ErrBig)
}
