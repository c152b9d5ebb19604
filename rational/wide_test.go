package rational

import (
	"math/big"
	"testing"

	"slope/api"
	"slope/natural"
)

// natOf is a natural of another library's number, which has at most MaxLimbs limbs.
func natOf(v *big.Int) api.Nat { return sure(natural.FromBytes(v.Bytes())) }

// wideOf is any number of that library.
func wideOf(v *big.Int) wide {
	var w wide
	for v = new(big.Int).Set(v); v.Sign() > 0; v.Rsh(v, digitBits) {
		digit := new(big.Int).And(v, lastOf(digitBits))
		w = append(w, natOf(digit))
	}
	return w
}

// lastOf is the greatest number of so many bits.
func lastOf(bits uint) *big.Int {
	z := new(big.Int).Lsh(big.NewInt(1), bits)
	return z.Sub(z, big.NewInt(1))
}

// checkWide fails if a wide number is not that one, or not in its one form.
func checkWide(t *testing.T, what string, got wide, want *big.Int) {
	t.Helper()
	if len(got) != len(wideOf(want)) || compareWide(got, wideOf(want)) != 0 {
		t.Errorf("%s: %d digits, not the %d of what is asked for", what, len(got), len(wideOf(want)))
	}
	for i := range got {
		if !natural.May(got[i]) || natural.Bits(got[i]) > digitBits {
			t.Errorf("%s: a digit that may not be", what)
		}
	}
}

// edgeDigits are digits at which a carry, a borrow or a guess goes one way or the other.
func edgeDigits() []*big.Int {
	half := new(big.Int).Lsh(big.NewInt(1), digitBits-1)
	return []*big.Int{big.NewInt(0), big.NewInt(1), half, new(big.Int).Add(half, big.NewInt(1)), lastOf(digitBits)}
}

// joined is two digits' number.
func joined(high, low *big.Int) *big.Int {
	z := new(big.Int).Lsh(high, digitBits)
	return z.Add(z, low)
}

// P2.4: what is met on the way to a sum is worked out to the last digit.
func TestWideSums(t *testing.T) {
	t.Parallel()
	var l []*big.Int
	for _, high := range edgeDigits() {
		for _, low := range edgeDigits() {
			l = append(l, joined(high, low), new(big.Int).Mul(joined(high, low), lastOf(2*digitBits)))
		}
	}
	for _, a := range l {
		for _, b := range l {
			w, v := wideOf(a), wideOf(b)
			checkWide(t, "plus", w.plus(v), new(big.Int).Add(a, b))
			checkWide(t, "apart", w.apart(v), new(big.Int).Abs(new(big.Int).Sub(a, b)))
			if compareWide(w, v) != a.Cmp(b) {
				t.Error("compareWide")
			}
		}
		n, e := wideOf(a).narrow()
		if (e == api.OK) != (a.BitLen() <= maxBits) || e == api.OK && natural.Cmp(n, natOf(a)) != 0 {
			t.Errorf("narrow of %d bits: error %d", a.BitLen(), e)
		}
	}
}

// P2.4: quotients of numbers just at, above and below a multiple, by divisors that lead guesses astray.
func TestWideQuotients(t *testing.T) {
	t.Parallel()
	one := big.NewInt(1)
	for _, high := range edgeDigits() {
		for _, low := range edgeDigits() {
			d := joined(high, low)
			if d.Sign() == 0 {
				continue
			}
			for _, q := range []*big.Int{one, lastOf(digitBits), lastOf(digitBits + 1), joined(edgeDigits()[2], one), lastOf(2 * digitBits)} {
				p := new(big.Int).Mul(q, d)
				for _, n := range []*big.Int{p, new(big.Int).Sub(p, one), new(big.Int).Add(p, one), new(big.Int).Mul(d, lastOf(900))} {
					got, left := wideOf(n).by(natOf(d))
					want, rest := new(big.Int).QuoRem(n, d, new(big.Int))
					checkWide(t, "by", got, want)
					checkWide(t, "what is left", spread(left), rest)
				}
				checkWide(t, "product", product(natOf(q), natOf(d)), p)
			}
		}
	}
}
