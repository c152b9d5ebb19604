package natural_test

import (
	"math/big"
	"testing"

	"slope/api"
	"slope/natural"
)

// wantFit is wantNat where the number fits a natural, and ErrBig where it doesn't.
func wantFit(t *testing.T, what string, got api.Nat, e api.Errno, want *big.Int) {
	t.Helper()
	if want.BitLen() > 65536 {
		wantErr(t, what, got, e, api.ErrBig)
		return
	}
	wantNat(t, what, got, e, want)
}

// P1.4
func TestAddSubDiff(t *testing.T) {
	for _, a := range sample() {
		for _, b := range sample() {
			x, y := value(a), value(b)
			n, e := natural.Add(a, b)
			wantFit(t, "Add", n, e, new(big.Int).Add(x, y))
			d := new(big.Int).Sub(x, y)
			n, e = natural.Sub(a, b)
			if d.Sign() < 0 {
				wantErr(t, "Sub", n, e, api.ErrUnder)
			} else {
				wantNat(t, "Sub", n, e, d)
			}
			n, greater, e := natural.Diff(a, b)
			wantNat(t, "Diff", n, e, new(big.Int).Abs(d))
			if greater != (d.Sign() < 0) {
				t.Errorf("Diff of %d and %d limbs: %t", len(a), len(b), greater)
			}
		}
	}
}

// P1.4
func TestMul(t *testing.T) {
	for _, a := range sample() {
		for _, b := range sample() {
			n, e := natural.Mul(a, b)
			wantFit(t, "Mul", n, e, new(big.Int).Mul(value(a), value(b)))
		}
	}
	d := dice(2)
	for la := 0; la <= 220; la += 9 {
		for lb := 0; lb <= 220; lb += 7 {
			a, b := d.nat(la), d.nat(lb)
			n, e := natural.Mul(a, b)
			wantNat(t, "Mul", n, e, new(big.Int).Mul(value(a), value(b)))
		}
	}
}

// P1.4
func TestExamplesOfArithmetic(t *testing.T) {
	one, f := natural.From(1), hex(t, "ffffffff")
	n, e := natural.Add(f, one)
	wantHex(t, "Add(ffffffff, 1)", n, e, "100000000")
	n, e = natural.Sub(one, natural.From(2))
	wantErr(t, "Sub(1, 2)", n, e, api.ErrUnder)
	n, greater, e := natural.Diff(one, natural.From(2))
	wantHex(t, "Diff(1, 2)", n, e, "1")
	if !greater {
		t.Error("Diff(1, 2): false")
	}
	n, greater, e = natural.Diff(natural.From(2), natural.From(2))
	wantHex(t, "Diff(2, 2)", n, e, "0")
	if greater {
		t.Error("Diff(2, 2): true")
	}
	n, e = natural.Mul(f, f)
	wantHex(t, "Mul(ffffffff, ffffffff)", n, e, "fffffffe00000001")
}

// P1.4: at the greatest number, and just above it.
func TestTooBig(t *testing.T) {
	one := natural.From(1)
	n, e := natural.Add(top(), one)
	wantErr(t, "Add(top, 1)", n, e, api.ErrBig)
	n, e = natural.Add(top(), nil)
	wantNat(t, "Add(top, 0)", n, e, value(top()))
	n, e = natural.Add(two(65535), two(65535))
	wantErr(t, "Add of halves", n, e, api.ErrBig)
	n, e = natural.Mul(two(32768), two(32768))
	wantErr(t, "Mul to 2^65536", n, e, api.ErrBig)
	n, e = natural.Mul(two(32768), two(32767))
	wantNat(t, "Mul to 2^65535", n, e, value(two(65535)))
	n, e = natural.Mul(top(), top())
	wantErr(t, "Mul(top, top)", n, e, api.ErrBig)
	n, e = natural.Mul(top(), nil)
	wantHex(t, "Mul(top, 0)", n, e, "0")
	// (2^32768 - 1) * (2^32768 + 1) is the greatest number just.
	n, e = natural.Mul(ones(1024), append(append(api.Nat{1}, make(api.Nat, 1023)...), 1))
	wantNat(t, "Mul to top", n, e, value(top()))
	// The same bits together, but one step more.
	n, e = natural.Mul(append(make(api.Nat, 1024), 1), append(append(api.Nat{1}, make(api.Nat, 1023)...), 1))
	wantErr(t, "Mul to 2^65536 + 2^32768", n, e, api.ErrBig)
	n, e = natural.Sub(top(), top())
	wantHex(t, "Sub(top, top)", n, e, "0")
}

// P1.5
func TestSum(t *testing.T) {
	n, e := natural.Sum()
	wantHex(t, "Sum of none", n, e, "0")
	l := []api.Nat{}
	want := new(big.Int)
	for _, a := range sample() {
		if natural.Bits(a) < 65000 {
			l = append(l, a)
			want.Add(want, value(a))
		}
		n, e := natural.Sum(a)
		wantNat(t, "Sum of one", n, e, value(a))
	}
	n, e = natural.Sum(l...)
	wantNat(t, "Sum", n, e, want)
	n, e = natural.Sum(nil, top(), nil)
	wantNat(t, "Sum(0, top, 0)", n, e, value(top()))
	n, e = natural.Sum(top(), natural.From(1))
	wantErr(t, "Sum(top, 1)", n, e, api.ErrBig)
	n, e = natural.Sum(top(), top(), top(), nil)
	wantErr(t, "Sum of tops", n, e, api.ErrBig)
	many := make([]api.Nat, 70000)
	for i := range many {
		many[i] = natural.From(1<<64 - 1)
	}
	n, e = natural.Sum(many...)
	wantNat(t, "Sum of many", n, e, new(big.Int).Mul(big.NewInt(70000), new(big.Int).SetUint64(1<<64-1)))
	for _, w := range wrong() {
		n, e := natural.Sum(top(), top(), w)
		wantErr(t, "Sum with a wrong list last", n, e, api.ErrNat)
		n, e = natural.Sum(w)
		wantErr(t, "Sum of a wrong list", n, e, api.ErrNat)
	}
}

// P1.5
func TestProduct(t *testing.T) {
	n, e := natural.Product()
	wantHex(t, "Product of none", n, e, "1")
	for _, a := range sample() {
		n, e := natural.Product(a)
		wantNat(t, "Product of one", n, e, value(a))
	}
	n, e = natural.Product(natural.From(6), two(100), natural.From(7))
	wantNat(t, "Product", n, e, new(big.Int).Lsh(big.NewInt(42), 100))
	big40 := two(40000)
	n, e = natural.Product(big40, big40, nil)
	wantErr(t, "Product too big ahead of 0", n, e, api.ErrBig)
	n, e = natural.Product(nil, big40, big40)
	wantHex(t, "Product with 0 ahead", n, e, "0")
	n, e = natural.Product(big40, nil, big40)
	wantHex(t, "Product with 0 between", n, e, "0")
	for _, w := range wrong() {
		n, e := natural.Product(big40, big40, w)
		wantErr(t, "Product with a wrong list last", n, e, api.ErrNat)
		n, e = natural.Product(nil, w)
		wantErr(t, "Product of 0 and a wrong list", n, e, api.ErrNat)
	}
}

// wantDivMod holds DivMod against the other library.
func wantDivMod(t *testing.T, a, b api.Nat) {
	t.Helper()
	q, r, e := natural.DivMod(a, b)
	if len(b) == 0 {
		wantErr(t, "DivMod by 0", q, e, api.ErrZero)
		wantErr(t, "DivMod by 0", r, e, api.ErrZero)
		return
	}
	x, y := new(big.Int).QuoRem(value(a), value(b), new(big.Int))
	wantNat(t, "DivMod's quotient", q, e, x)
	wantNat(t, "DivMod's remainder", r, e, y)
}

// P1.6
func TestDivMod(t *testing.T) {
	for _, a := range sample() {
		for _, b := range sample() {
			wantDivMod(t, a, b)
		}
	}
	d := dice(3)
	for range 4000 {
		a, b := d.nat(int(d.next()%9)), d.nat(int(d.next()%6))
		wantDivMod(t, a, b)
	}
	q, r, e := natural.DivMod(hex(t, "100000000"), natural.From(3))
	wantHex(t, "DivMod(100000000, 3)", q, e, "55555555")
	wantHex(t, "DivMod(100000000, 3)", r, e, "1")
	// Dividends whose quotient's limb is guessed too great: by one, and so far that the divisor is added back.
	wantDivMod(t, api.Nat{0, 0, 1 << 31, 1<<31 - 1}, api.Nat{1, 0, 1 << 31})
	wantDivMod(t, api.Nat{3, 0, 1 << 31}, api.Nat{1, 0, 1 << 29})
	wantDivMod(t, api.Nat{0, 1<<32 - 2, 1 << 31}, api.Nat{1<<32 - 1, 1 << 31})
	wantDivMod(t, api.Nat{0, 0, 0, 1 << 31, 1<<32 - 2}, api.Nat{1<<32 - 1, 0, 1<<32 - 1})
	for _, w := range wrong() {
		for _, pair := range [][2]api.Nat{{w, nil}, {nil, w}, {w, w}, {api.Nat{7}, w}} {
			q, r, e := natural.DivMod(pair[0], pair[1])
			wantErr(t, "DivMod of a wrong list", q, e, api.ErrNat)
			wantErr(t, "DivMod of a wrong list", r, e, api.ErrNat)
		}
	}
}

// P1.4, P1.8, P1.11: a list that may not be comes first, whatever stands beside it.
func TestWrongPairs(t *testing.T) {
	for _, c := range pairCalls() {
		for _, w := range wrong() {
			for _, b := range []api.Nat{nil, {1}, top(), w} {
				n, e := c.call(w, b)
				wantErr(t, c.name, n, e, api.ErrNat)
				n, e = c.call(b, w)
				wantErr(t, c.name, n, e, api.ErrNat)
			}
		}
	}
	for _, w := range wrong() {
		for _, pair := range [][2]api.Nat{{w, nil}, {nil, w}, {w, w}} {
			n, greater, e := natural.Diff(pair[0], pair[1])
			wantErr(t, "Diff", n, e, api.ErrNat)
			if greater {
				t.Error("Diff of a wrong list: true")
			}
		}
	}
}
