package rational_test

import (
	"fmt"
	"math"
	"math/big"
	"regexp"
	"strconv"
	"strings"
	"testing"

	"slope/api"
	"slope/rational"
)

// P2.7
func TestPrint(t *testing.T) {
	for _, l := range [][]api.Rat{small(), medium(), large()} {
		for _, a := range l {
			s, e := rational.Print(a)
			if e != api.OK || s != value(a).RatString() || len(s) > api.MaxText {
				t.Errorf("Print of %s: %.40q, error %d", show(a), s, e)
			}
			r, at, e := rational.Parse(s)
			wantValue(t, "Parse of Print", r, e, value(a))
			if at != 0 {
				t.Errorf("Parse of Print: place %d", at)
			}
		}
	}
	s, e := rational.Print(negative(over(top(), less(top(), 2))))
	if e != api.OK || len(s) != 2+2*19729 {
		t.Errorf("Print of the longest: %d bytes, error %d", len(s), e)
	}
}

// wantParse fails if Parse answers something else; want is empty beside an error.
func wantParse(t *testing.T, s, want string, at int, f api.Errno) {
	t.Helper()
	r, place, e := rational.Parse(s)
	what := fmt.Sprintf("Parse(%.30q), %d bytes", s, len(s))
	if f == api.OK {
		wantText(t, what, r, e, want)
	} else {
		wantErr(t, what, r, e, f)
	}
	if place != at {
		t.Errorf("%s: place %d, want %d", what, place, at)
	}
}

// P2.7
func TestParseExamples(t *testing.T) {
	wantParse(t, "-012.50e1", "-125", 0, api.OK)
	wantParse(t, "3/6", "1/2", 0, api.OK)
	wantParse(t, "-0003/006", "-1/2", 0, api.OK)
	wantParse(t, "1.50e-3", "3/2000", 0, api.OK)
	wantParse(t, "1.50e3", "1500", 0, api.OK)
	wantParse(t, "-0.00", "0", 0, api.OK)
	wantParse(t, "-0/5", "0", 0, api.OK)
	wantParse(t, "0e4096", "0", 0, api.OK)
	wantParse(t, "7E+002", "700", 0, api.OK)
	wantParse(t, "1/0", "", 1, api.ErrZero)
	wantParse(t, "-15/000", "", 3, api.ErrZero)
	wantParse(t, "1.", "", 2, api.ErrDigit)
	wantParse(t, "+1", "", 0, api.ErrDigit)
	wantParse(t, "1e", "", 2, api.ErrDigit)
	wantParse(t, "1e-", "", 3, api.ErrDigit)
	wantParse(t, "1/2e3", "", 3, api.ErrDigit)
	wantParse(t, "1/0x", "", 3, api.ErrDigit)
	wantParse(t, "1/0.5", "", 3, api.ErrDigit)
	wantParse(t, "1e5000x", "", 6, api.ErrDigit)
	wantParse(t, "", "", 0, api.ErrDigit)
	wantParse(t, " 1", "", 0, api.ErrDigit)
	wantParse(t, "1\n", "", 1, api.ErrDigit)
	wantParse(t, "1_000", "", 1, api.ErrDigit)
	wantParse(t, "\xff", "", 0, api.ErrDigit)
	wantParse(t, "1e5000", "", 1, api.ErrArg)
}

var form = regexp.MustCompile(`^(-?)([0-9]+)(?:/([0-9]+)|(?:\.([0-9]+))?(?:[eE]([+-]?[0-9]+))?)$`)

// expect is what Parse should answer of a text without long powers, told by a pattern in the place of the table.
func expect(s string) (*big.Rat, int, api.Errno) {
	for i := range s {
		// Whatever can begin a number's text is one with at most a digit more.
		if !form.MatchString(s[:i+1]) && !form.MatchString(s[:i+1]+"1") {
			return nil, i, api.ErrDigit
		}
	}
	m := form.FindStringSubmatch(s)
	if m == nil {
		return nil, len(s), api.ErrDigit
	}
	n, _ := new(big.Int).SetString(m[2]+m[4], 10)
	d := big.NewInt(1)
	if m[3] != "" {
		d, _ = new(big.Int).SetString(m[3], 10)
	}
	if d.Sign() == 0 {
		return nil, strings.Index(s, "/"), api.ErrZero
	}
	k, _ := strconv.Atoi(m[5])
	v := new(big.Rat).SetFrac(n, d)
	v.Mul(v, power(num("10"), k-len(m[4])))
	if m[1] != "" {
		v.Neg(v)
	}
	return v, 0, api.OK
}

// P2.7: all texts of a few bytes.
func TestParseShortTexts(t *testing.T) {
	const bytes = "012-+/.eEx"
	texts := []string{""}
	for from := 0; len(texts) < 111111; from++ {
		for _, c := range bytes {
			texts = append(texts, texts[from]+string(c))
		}
	}
	for _, s := range texts {
		r, at, e := rational.Parse(s)
		v, place, f := expect(s)
		if at != place || e != f || e == api.OK && !same(r, number(v)) || e != api.OK && !empty(r) {
			t.Errorf("Parse(%q): %s, %d, %d", s, show(r), at, e)
		}
	}
}

// P2.7: each byte behind each beginning of a text.
func TestParseEachByte(t *testing.T) {
	for _, head := range []string{"", "-", "7", "-07", "7/", "7/3", "7.", "7.5", "7e", "7.5E", "7e+", "7e-", "7e1", "7.5e-1"} {
		for c := range 256 {
			s := head + string([]byte{byte(c)})
			r, at, e := rational.Parse(s + "1")
			v, place, f := expect(s + "1")
			if at != place || e != f || e == api.OK && !same(r, number(v)) {
				t.Errorf("Parse(%q): %s, %d, %d, want %d, %d", s+"1", show(r), at, e, place, f)
			}
		}
	}
}

// P2.7
func TestParseLongTexts(t *testing.T) {
	zeros := func(n int) string { return strings.Repeat("0", n) }
	wantParse(t, zeros(65535)+"7", "7", 0, api.OK)
	wantParse(t, zeros(65536)+"7", "", 65536, api.ErrText)
	wantParse(t, strings.Repeat("x", 65536), "", 0, api.ErrDigit)
	wantParse(t, strings.Repeat("x", 65537), "", 65536, api.ErrText)
	wantParse(t, zeros(65535)+"x", "", 65535, api.ErrDigit)
	wantParse(t, zeros(65535)+"/", "", 65536, api.ErrDigit)
	wantParse(t, "-3/"+zeros(65532)+"9", "-1/3", 0, api.OK)
	wantParse(t, "-3/"+zeros(65533), "", 2, api.ErrZero)
	wantParse(t, strings.Repeat("9", 60000)+"/"+zeros(9), "", 60000, api.ErrZero)
}

// P2.7: the power of ten at MaxExponent and above it.
func TestParsePowers(t *testing.T) {
	wantParse(t, "1e4096", "1e4096", 0, api.OK)
	wantParse(t, "-3E-4096", "-3e-4096", 0, api.OK)
	wantParse(t, "1e+"+strings.Repeat("0", 60000)+"4096", "1e4096", 0, api.OK)
	wantParse(t, "1e4097", "", 1, api.ErrArg)
	wantParse(t, "1e-4097", "", 1, api.ErrArg)
	wantParse(t, "0.00e4097", "", 4, api.ErrArg)
	wantParse(t, "1.5E-00005000", "", 3, api.ErrArg)
	for _, s := range []string{"18446744073709551616", "18446744073709551617", "9223372036854775808", "4294967296", "340282366920938463463374607431768211457", strings.Repeat("9", 65000)} {
		wantParse(t, "12e"+s, "", 2, api.ErrArg)
		wantParse(t, "12e-"+s, "", 2, api.ErrArg)
	}
	wantParse(t, strings.Repeat("9", 60000)+"e4097", "", 60000, api.ErrArg)
}

// P2.7: the number as it is written, at 2^65536 and below.
func TestParseLargeNumbers(t *testing.T) {
	ones := func(n int) string { return "1" + strings.Repeat("0", n) }
	most, over := top().String(), two(65536).String()
	wantParse(t, most, most, 0, api.OK)
	wantParse(t, "-"+over, "", 0, api.ErrBig)
	wantParse(t, "1/"+most, "1/"+most, 0, api.OK)
	wantParse(t, "1/"+over, "", 0, api.ErrBig)
	wantParse(t, over+"/"+over, "", 0, api.ErrBig)
	wantParse(t, over+"/2", "", 0, api.ErrBig)
	wantParse(t, "0/"+over, "", 0, api.ErrBig)
	wantParse(t, "0."+ones(19727)[1:]+"5", "5e-19728", 0, api.OK)
	wantParse(t, "0."+ones(19728)[1:]+"0", "", 0, api.ErrBig)
	wantParse(t, ones(15632)+"e4096", ones(19728), 0, api.OK)
	wantParse(t, ones(15633)+"e4096", "", 0, api.ErrBig)
	wantParse(t, "0."+ones(15631)[1:]+"7e-4096", "7e-19728", 0, api.OK)
	wantParse(t, "0."+ones(15632)[1:]+"7e-4096", "", 0, api.ErrBig)
	// The power less the places is reckoned first.
	wantParse(t, "1."+ones(19728)[1:]+"e4096", "1e4096", 0, api.OK)
	wantParse(t, "1."+ones(19729)[1:]+"e4096", "", 0, api.ErrBig)
	wantParse(t, "0."+ones(23824)[1:]+"e4096", "0", 0, api.OK)
	wantParse(t, "0."+ones(23825)[1:]+"e4096", "", 0, api.ErrBig)
	wantParse(t, "0."+strings.Repeat("0", 65534), "", 0, api.ErrBig)
	wantParse(t, strings.Repeat("9", 65536), "", 0, api.ErrBig)
}

// expectDecimal is a number's text with so many places.
func expectDecimal(v *big.Rat, places int) string {
	n := bigRound(new(big.Rat).Mul(v, power(num("10"), places)))
	s := new(big.Int).Abs(n).String()
	s = strings.Repeat("0", max(0, places+1-len(s))) + s
	if places > 0 {
		s = s[:len(s)-places] + "." + s[len(s)-places:]
	}
	if n.Sign() < 0 {
		s = "-" + s
	}
	return s
}

// P2.7
func TestDecimal(t *testing.T) {
	t.Parallel()
	for _, c := range []struct {
		r      string
		places int
		want   string
	}{
		{"-1/8", 2, "-0.12"}, {"3/8", 2, "0.38"}, {"-1/1000", 2, "0.00"}, {"5/2", 0, "2"}, {"7/2", 0, "4"}, {"-1/2", 0, "0"}, {"-19/2", 0, "-10"},
		{"999/1000", 2, "1.00"}, {"1999/200", 1, "10.0"}, {"0", 3, "0.000"}, {"-7", 1, "-7.0"}, {"1/20", 1, "0.0"}, {"3/20", 1, "0.2"}, {"-3/200", 2, "-0.02"},
	} {
		if s, e := rational.Decimal(num(c.r), c.places); s != c.want || e != api.OK {
			t.Errorf("Decimal(%s, %d): %q, error %d, want %q", c.r, c.places, s, e, c.want)
		}
	}
	var halves []api.Rat
	for n := int64(-250); n <= 250; n++ {
		halves = append(halves, number(big.NewRat(n, 80)))
	}
	for _, l := range [][]api.Rat{small(), medium(), large(), halves} {
		for _, a := range l {
			for _, places := range []int{0, 1, 2, 3, 19, 1000} {
				s, e := rational.Decimal(a, places)
				if want := expectDecimal(value(a), places); s != want || e != api.OK {
					t.Errorf("Decimal of %s, %d places: %.40q, error %d, want %.40q", show(a), places, s, e, want)
				}
			}
		}
	}
	for _, places := range []int{-1, 1001, math.MinInt, math.MaxInt} {
		if s, e := rational.Decimal(num("1/3"), places); s != "" || e != api.ErrArg {
			t.Errorf("Decimal with %d places: %q, error %d", places, s, e)
		}
	}
}
