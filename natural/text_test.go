package natural_test

import (
	"fmt"
	"math"
	"math/big"
	"strings"
	"testing"

	"slope/api"
	"slope/natural"
)

// P1.13, P1.14: texts are the other library's, and are read as the number, however they are written.
func TestPrintAndParse(t *testing.T) {
	for i, n := range sample() {
		for base := 2; base <= 36; base++ {
			if len(n) > 200 && base != 2 && base != 36 && base%7 != i%7 {
				continue
			}
			s, e := natural.Print(n, base)
			if e != api.OK || s != value(n).Text(base) || len(s) > api.MaxText {
				t.Errorf("Print of %d limbs in base %d: %d bytes, error %d", len(n), base, len(s), e)
			}
			wantRead(t, s, base, n)
			wantRead(t, strings.ToUpper(s), base, n)
			wantRead(t, strings.Repeat("0", api.MaxText-len(s)), base, nil)
			wantRead(t, strings.Repeat("0", api.MaxText-len(s))+s, base, n)
		}
	}
}

// wantRead fails if a text is not read as that natural; the empty one is none.
func wantRead(t *testing.T, s string, base int, want api.Nat) {
	t.Helper()
	if s == "" {
		return
	}
	n, at, e := natural.Parse(s, base)
	wantNat(t, fmt.Sprintf("Parse of %d bytes in base %d", len(s), base), n, e, value(want))
	if at != 0 {
		t.Errorf("Parse of %d bytes in base %d: place %d", len(s), base, at)
	}
}

// P1.14: what is printed of what is read is the text without zeros ahead, in small letters.
func TestTextsBackAndForth(t *testing.T) {
	for _, x := range []struct {
		s    string
		base int
		want string
	}{{"000", 7, "0"}, {"0Ff", 16, "ff"}, {"0000zZ09", 36, "zz09"}, {"1234567890", 10, "1234567890"}, {"00102", 3, "102"}, {"4294967296", 10, "4294967296"}} {
		n, at, e := natural.Parse(x.s, x.base)
		if at != 0 || e != api.OK {
			t.Errorf("Parse(%q, %d): %d %d", x.s, x.base, at, e)
		}
		if s, e := natural.Print(n, x.base); s != x.want || e != api.OK {
			t.Errorf("Print of Parse(%q, %d): %q, error %d", x.s, x.base, s, e)
		}
	}
}

// P1.13
func TestPrintRefuses(t *testing.T) {
	for _, base := range []int{1, 0, -1, -10, 37, 64, math.MinInt, math.MaxInt} {
		for _, n := range []api.Nat{nil, {255}, top()} {
			if s, e := natural.Print(n, base); s != "" || e != api.ErrBase {
				t.Errorf("Print in base %d: %q, error %d", base, s, e)
			}
		}
	}
	for _, w := range wrong() {
		for _, base := range []int{10, 1, 37} {
			if s, e := natural.Print(w, base); s != "" || e != api.ErrNat {
				t.Errorf("Print of a wrong list in base %d: %q, error %d", base, s, e)
			}
		}
	}
	if s, e := natural.Print(api.Nat{255}, 16); s != "ff" || e != api.OK {
		t.Errorf("Print([255], 16): %q, error %d", s, e)
	}
	if s, e := natural.Print(api.Nat{}, 2); s != "0" || e != api.OK {
		t.Errorf("Print([], 2): %q, error %d", s, e)
	}
	if s, e := natural.Print(top(), 2); s != strings.Repeat("1", 65536) || e != api.OK {
		t.Errorf("Print(top, 2): %d bytes, error %d", len(s), e)
	}
}

// P1.13
func TestParseRefuses(t *testing.T) {
	long := strings.Repeat("0", api.MaxText)
	for _, x := range []struct {
		s    string
		base int
		at   int
		e    api.Errno
	}{
		{"12", 2, 1, api.ErrDigit}, {"", 10, 0, api.ErrDigit}, {"", 36, 0, api.ErrDigit},
		{"9", 9, 0, api.ErrDigit}, {"09a", 10, 2, api.ErrDigit}, {"g", 16, 0, api.ErrDigit}, {"G", 16, 0, api.ErrDigit},
		{"zZ{", 36, 2, api.ErrDigit}, {"00 1", 10, 2, api.ErrDigit}, {"-1", 10, 0, api.ErrDigit}, {"+1", 10, 0, api.ErrDigit}, {"1_0", 10, 1, api.ErrDigit},
		{"1\x00", 36, 1, api.ErrDigit}, {"1\n", 10, 1, api.ErrDigit}, {"\xff", 36, 0, api.ErrDigit}, {"1é", 36, 1, api.ErrDigit},
		{"/", 36, 0, api.ErrDigit}, {":", 36, 0, api.ErrDigit}, {"@", 36, 0, api.ErrDigit}, {"[", 36, 0, api.ErrDigit}, {"`", 36, 0, api.ErrDigit},
		{"1", 1, 0, api.ErrBase}, {"1", 37, 0, api.ErrBase}, {"1", -2, 0, api.ErrBase}, {"?", 0, 0, api.ErrBase}, {"", 37, 0, api.ErrBase},
		{"1", math.MinInt, 0, api.ErrBase}, {"1", math.MaxInt, 0, api.ErrBase}, {long, 37, 0, api.ErrBase},
		{"1" + long, 2, 65536, api.ErrText}, {"?" + long, 2, 65536, api.ErrText}, {long + "0", 99, 65536, api.ErrText}, {long + long, 10, 65536, api.ErrText},
		{strings.Repeat("f", 65536), 16, 0, api.ErrBig}, {strings.Repeat("f", 65535) + "g", 16, 65535, api.ErrDigit},
		{"1" + long[:16384], 16, 0, api.ErrBig}, {strings.Repeat("2", 65536), 3, 0, api.ErrBig}, {strings.Repeat("z", 65536), 36, 0, api.ErrBig},
	} {
		n, at, e := natural.Parse(x.s, x.base)
		if at != x.at || e != x.e || len(n) != 0 {
			t.Errorf("Parse of %.9q (%d bytes) in base %d: %d limbs, place %d, error %d", x.s, len(x.s), x.base, len(n), at, e)
		}
	}
}

// P1.13: in every base 2^65536 is too big, one less isn't.
func TestParseAtTheTop(t *testing.T) {
	over := new(big.Int).Lsh(big.NewInt(1), 65536)
	for base := 2; base <= 36; base++ {
		wantRead(t, value(top()).Text(base), base, top())
		s := over.Text(base)
		if len(s) > api.MaxText {
			continue
		}
		if n, at, e := natural.Parse(s, base); len(n) != 0 || at != 0 || e != api.ErrBig {
			t.Errorf("Parse of 2^65536 in base %d: place %d, error %d", base, at, e)
		}
	}
	wantRead(t, strings.Repeat("1", api.MaxText), 2, top())
	wantRead(t, "z", 36, api.Nat{35})
	wantRead(t, "0Ff", 16, api.Nat{255})
}
