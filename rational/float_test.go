package rational_test

import (
	"math"
	"math/big"
	"testing"

	"slope/api"
	"slope/rational"
)

// checkFloat holds Float of a number, and of its negative, against the other library.
func checkFloat(t *testing.T, v *big.Rat) {
	t.Helper()
	for range 2 {
		f, _ := v.Float64()
		b, e := rational.Float(number(v))
		if b != math.Float64bits(f) || e != api.OK {
			t.Errorf("Float of %s: %x, error %d, want %x", show(number(v)), b, e, math.Float64bits(f))
		}
		v = new(big.Rat).Neg(v)
	}
}

// P2.8
func TestFloat(t *testing.T) {
	for _, l := range [][]api.Rat{small(), medium(), large()} {
		for _, a := range l {
			checkFloat(t, value(a))
		}
	}
	for _, c := range []struct {
		r    api.Rat
		want uint64
	}{
		{num("0"), 0}, {num("1"), 0x3FF0000000000000}, {num("1/3"), 0x3FD5555555555555}, {num("-1e-400"), 0x8000000000000000}, {num("1e-400"), 0}, {num("-2"), 0xC000000000000000},
		{wholeOf(two(1024)), 0x7FF0000000000000}, {negative(wholeOf(top())), 0xFFF0000000000000}, {over(big.NewInt(1), top()), 0}, {over(big.NewInt(-1), top()), 0x8000000000000000},
	} {
		if b, e := rational.Float(c.r); b != c.want || e != api.OK {
			t.Errorf("Float of %s: %x, error %d, want %x", show(c.r), b, e, c.want)
		}
	}
}

// between is the number in the midst of two neighbouring floating-point numbers' bits, and numbers hardly beside it.
func between(b uint64) []*big.Rat {
	low := new(big.Rat).SetFloat64(math.Float64frombits(b))
	high := new(big.Rat)
	if b+1 == 0x7FF0000000000000 {
		high.SetInt(two(1024))
	} else {
		high.SetFloat64(math.Float64frombits(b + 1))
	}
	mid := new(big.Rat).Mul(new(big.Rat).Add(low, high), big.NewRat(1, 2))
	bit := new(big.Rat).SetFrac(big.NewInt(1), two(1300))
	return []*big.Rat{low, mid, new(big.Rat).Sub(mid, bit), new(big.Rat).Add(mid, bit), new(big.Rat).Add(low, bit), new(big.Rat).Sub(high, bit)}
}

// P2.8: halves go to the even side; the least and the greatest numbers, and those around where the normal ones begin.
func TestFloatBetweenNeighbours(t *testing.T) {
	d := dice(6)
	l := []uint64{0, 1, 2, 3, 1<<52 - 2, 1<<52 - 1, 1 << 52, 1<<52 + 1, 1 << 53, 1<<53 - 1, 0x3FEFFFFFFFFFFFFF, 0x3FF0000000000000, 0x433FFFFFFFFFFFFF, 0x4340000000000000, 0x4350000000000000, 0x7FEFFFFFFFFFFFFF, 0x7FEFFFFFFFFFFFFE, 0x7FE0000000000000, 0x7FDFFFFFFFFFFFFF}
	for range 400 {
		b := uint64(d.next())<<32 | uint64(d.next())
		l = append(l, b%0x7FF0000000000000, b>>12, b>>(12+d.next()%52))
	}
	for _, b := range l {
		for _, v := range between(b) {
			checkFloat(t, v)
		}
	}
}

// P2.8: whole numbers and binary fractions of a few bits too many, each of their last bits.
func TestFloatOfLastBits(t *testing.T) {
	for _, bits := range []int{52, 53, 54, 55, 60, 100} {
		for n := range int64(70) {
			whole := new(big.Int).Add(two(bits), big.NewInt(n))
			checkFloat(t, new(big.Rat).SetInt(whole))
			checkFloat(t, new(big.Rat).SetInt(new(big.Int).Add(whole, two(bits-51))))
			checkFloat(t, new(big.Rat).SetInt(new(big.Int).Mul(whole, two(900))))
			checkFloat(t, new(big.Rat).SetFrac(whole, two(bits+900)))
			checkFloat(t, new(big.Rat).SetFrac(big.NewInt(n), two(1070+bits/10)))
		}
	}
}

// P2.8
func TestFloatOfTheGreatest(t *testing.T) {
	border := new(big.Int).Sub(two(1024), two(970))
	for _, c := range []struct {
		r    api.Rat
		want uint64
	}{
		{wholeOf(border), 0x7FF0000000000000}, {wholeOf(less(border, 1)), 0x7FEFFFFFFFFFFFFF}, {negative(wholeOf(border)), 0xFFF0000000000000},
		{over(big.NewInt(1), two(1074)), 1}, {over(big.NewInt(1), two(1075)), 0}, {over(big.NewInt(-1), two(1075)), 1 << 63}, {over(big.NewInt(3), two(1075)), 2},
	} {
		if b, e := rational.Float(c.r); b != c.want || e != api.OK {
			t.Errorf("Float of %s: %x, error %d, want %x", show(c.r), b, e, c.want)
		}
	}
	// Two numbers of the greatest size whose quotient is near 1, and near a half of the last bit.
	d := dice(7)
	n := d.nat(2048)
	checkFloat(t, new(big.Rat).SetFrac(n, less(n, 1)))
	checkFloat(t, new(big.Rat).SetFrac(less(n, 1), n))
	checkFloat(t, new(big.Rat).SetFrac(new(big.Int).Add(two(65535), two(65535-53)), two(65535)))
	checkFloat(t, new(big.Rat).SetFrac(new(big.Int).Add(two(65535), less(two(65535-53), 1)), two(65535)))
	checkFloat(t, new(big.Rat).SetFrac(d.nat(2048), d.nat(2016)))
	checkFloat(t, new(big.Rat).SetFrac(d.nat(2015), d.nat(2048)))
}

// P2.8
func TestFromFloat(t *testing.T) {
	d := dice(8)
	l := []uint64{0, 1 << 63, 1, 1<<63 | 1, 1<<52 - 1, 1 << 52, 0x7FEFFFFFFFFFFFFF, 0xFFEFFFFFFFFFFFFF, 0x3FF0000000000000, 0x4330000000000001, 0x4340000000000001}
	for e := range uint64(2047) {
		l = append(l, e<<52, e<<52|1, e<<52|1<<51|1<<63, e<<52|uint64(d.next())<<20|uint64(d.next()>>12))
	}
	for _, b := range l {
		r, e := rational.FromFloat(b)
		wantValue(t, "FromFloat", r, e, new(big.Rat).SetFloat64(math.Float64frombits(b)))
		if b == 1<<63 {
			continue // 0 has no sign there
		}
		if back, e := rational.Float(r); back != b || e != api.OK {
			t.Errorf("Float(FromFloat(%x)): %x, error %d", b, back, e)
		}
	}
	for _, b := range []uint64{0x7FF0000000000000, 0xFFF0000000000000, 0x7FF0000000000001, 0x7FF8000000000000, 0xFFFFFFFFFFFFFFFF} {
		r, e := rational.FromFloat(b)
		wantErr(t, "FromFloat of none", r, e, api.ErrArg)
	}
}
