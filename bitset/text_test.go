package bitset_test

import (
	"fmt"
	"math/big"
	"regexp"
	"strings"
	"testing"

	"slope/api"
	"slope/bitset"
)

// plainText writes a set by looking at each number and its neighbours.
func plainText(s api.Set) string {
	text := fmt.Sprintf("%d:", s.Size)
	has := func(e int) bool { return e >= 0 && e < s.Size && in(s, e) }
	for e := range s.Size {
		switch {
		case !has(e):
		case !has(e-1) && text[len(text)-1] != ':':
			text += fmt.Sprintf(",%d", e)
		case !has(e - 1):
			text += fmt.Sprint(e)
		case !has(e + 1):
			text += fmt.Sprintf("-%d", e)
		}
	}
	return text
}

// wantPlace fails if it is not that error and that place with no set beside.
func wantPlace(t *testing.T, text string, at int, want api.Errno) {
	t.Helper()
	s, got, err := bitset.Parse(text)
	if got != at || err != want || !same(s, api.Set{}) {
		t.Errorf("Parse(%.40q): %s, place %d, error %d, want place %d, error %d", text, show(s), got, err, at, want)
	}
}

// P3.9
func TestPrint(t *testing.T) {
	for _, c := range []struct {
		s    api.Set
		want string
	}{
		{set(16, 0, 1, 2, 7, 9, 10), "16:0-2,7,9-10"}, {set(3), "3:"}, {set(0), "0:"}, {set(1, 0), "1:0"}, {set(2, 0, 1), "2:0-1"},
		{set(4096, 4095), "4096:4095"}, {set(130, 63, 64, 127, 128, 129), "130:63-64,127-129"}, {set(11, 0, 2, 4, 10), "11:0,2,4,10"},
	} {
		if got, err := bitset.Print(c.s); err != api.OK || got != c.want {
			t.Errorf("Print: %q, error %d, want %q", got, err, c.want)
		}
	}
	for _, s := range wrong() {
		if got, err := bitset.Print(s); err != api.ErrSet || got != "" {
			t.Errorf("Print of a wrong set: %q, error %d", got, err)
		}
	}
}

// P3.9: what is printed is read as the same.
func TestPrintAndParse(t *testing.T) {
	for _, size := range sizes() {
		for _, s := range samples(size) {
			text, err := bitset.Print(s)
			if err != api.OK || text != plainText(s) {
				t.Errorf("Print of %s: %.60q, error %d", show(s), text, err)
			}
			got, at, err := bitset.Parse(text)
			wantSet(t, "Parse of Print", got, err, s)
			if at != 0 {
				t.Errorf("Parse(%.60q): place %d", text, at)
			}
		}
	}
	for bits := range uint64(1 << 10) {
		s := api.Set{Size: 10, Words: []uint64{bits}}
		text, _ := bitset.Print(s)
		if text != plainText(s) {
			t.Errorf("Print of %s: %q", show(s), text)
		}
		got, _, err := bitset.Parse(text)
		wantSet(t, "Parse of Print", got, err, s)
	}
}

// P3.9
func TestParseRefuses(t *testing.T) {
	for _, c := range []struct {
		text string
		at   int
		want api.Errno
	}{
		{"3", 1, api.ErrDigit}, {"3:0,1", 4, api.ErrArg}, {"3:1-1", 4, api.ErrArg}, {"03:", 1, api.ErrDigit}, {"5000:", 0, api.ErrUniverse},
		{"3:2-3", 4, api.ErrElement}, {"3:0-1-2", 5, api.ErrDigit}, {"3:,", 2, api.ErrDigit},
		{"", 0, api.ErrDigit}, {":", 0, api.ErrDigit}, {"-3:", 0, api.ErrDigit}, {" 3:", 0, api.ErrDigit}, {"3 :", 1, api.ErrDigit}, {"3::", 2, api.ErrDigit},
		{"3: ", 2, api.ErrDigit}, {"3:0,", 4, api.ErrDigit}, {"3:0-", 4, api.ErrDigit}, {"3:0-,", 4, api.ErrDigit}, {"3:00", 3, api.ErrDigit}, {"3:01", 3, api.ErrDigit},
		{"3:0-02", 5, api.ErrDigit}, {"00:", 1, api.ErrDigit}, {"3:-1", 2, api.ErrDigit}, {"3:0\n", 3, api.ErrDigit}, {"3:0;1", 3, api.ErrDigit}, {"3:0--1", 4, api.ErrDigit},
		{"3/", 1, api.ErrDigit}, {"/:", 0, api.ErrDigit}, {"3:/", 2, api.ErrDigit}, {"+3:", 0, api.ErrDigit}, {"3:\xff", 2, api.ErrDigit}, {"3:\x00", 2, api.ErrDigit},
		{"4097:", 0, api.ErrUniverse}, {"4097:9,9", 0, api.ErrUniverse}, {"4097:x", 5, api.ErrDigit}, {"4097", 4, api.ErrDigit}, {"99999:0-99999999", 0, api.ErrUniverse},
		{"18446744073709551616:", 0, api.ErrUniverse}, {"18446744073709551621:4", 0, api.ErrUniverse}, {"4294967296:", 0, api.ErrUniverse},
		{"0:0", 2, api.ErrElement}, {"3:3", 2, api.ErrElement}, {"4096:4096", 5, api.ErrElement}, {"5:18446744073709551616", 2, api.ErrElement}, {"5:0-4294967297", 4, api.ErrElement},
		{"5:18446744073709551617-2", 2, api.ErrElement}, {"5:9,0,x", 6, api.ErrDigit}, {"5:2,1,9", 4, api.ErrArg}, {"5:9,1,0", 2, api.ErrElement}, {"5:2,9,1", 4, api.ErrElement},
		{"5:2-1", 4, api.ErrArg}, {"5:2-2,9", 4, api.ErrArg}, {"5:2-0", 4, api.ErrArg}, {"5:0-1,2", 6, api.ErrArg}, {"5:0-2,2", 6, api.ErrArg}, {"5:0-2,1-4", 6, api.ErrArg}, {"5:3,3", 4, api.ErrArg},
		{"5:0-1,3-3", 8, api.ErrArg}, {"5:0-1,3-5", 8, api.ErrElement}, {"5:0,2-9,1", 6, api.ErrElement}, {"5:4,0", 4, api.ErrArg}, {"100:10,11", 7, api.ErrArg}, {"100:98,99", 7, api.ErrArg},
	} {
		wantPlace(t, c.text, c.at, c.want)
	}
	for _, c := range []struct {
		text string
		want api.Set
	}{{"3:", set(3)}, {"0:", set(0)}, {"3:0", set(3, 0)}, {"3:0,2", set(3, 0, 2)}, {"3:0-2", set(3, 0, 1, 2)}, {"4096:4095", set(4096, 4095)}, {"4096:0,2-3,4094-4095", set(4096, 0, 2, 3, 4094, 4095)}} {
		got, at, err := bitset.Parse(c.text)
		wantSet(t, c.text, got, err, c.want)
		if at != 0 {
			t.Errorf("Parse(%q): place %d", c.text, at)
		}
	}
}

// P3.9: texts at the greatest length and above it.
func TestParseLongTexts(t *testing.T) {
	nines := strings.Repeat("9", 65536)
	wantPlace(t, nines+":", 65536, api.ErrText)
	wantPlace(t, "x"+nines, 65536, api.ErrText)
	wantPlace(t, nines[:65535]+":", 0, api.ErrUniverse)
	wantPlace(t, nines, 65536, api.ErrDigit)
	wantPlace(t, nines[:65535]+"x", 65535, api.ErrDigit)
	wantPlace(t, "4096:"+nines[:65531], 5, api.ErrElement)
	wantPlace(t, "4096:0-"+nines[:65529], 7, api.ErrElement)
	wantPlace(t, "4096:"+nines[:65532], 65536, api.ErrText)
	pairs := strings.Repeat("1,", 32766)
	wantPlace(t, "9:0,"+pairs[:65531]+"2", 4, api.ErrArg)
	wantPlace(t, "9:"+pairs, 65534, api.ErrDigit)
	wantPlace(t, "9:"+pairs+"11", 4, api.ErrArg)
	wantPlace(t, "9:"+pairs+"1,1", 65536, api.ErrText)
}

// form is the form of a text; what may complete a text's beginning are the ends.
var form = regexp.MustCompile(`^(0|[1-9][0-9]*):((0|[1-9][0-9]*)(-(0|[1-9][0-9]*))?(,(0|[1-9][0-9]*)(-(0|[1-9][0-9]*))?)*)?$`)

// begins tells whether a text of the form begins so.
func begins(text string) bool {
	for _, end := range []string{"", "0", ":", "0:"} {
		if form.MatchString(text + end) {
			return true
		}
	}
	return false
}

// judge tells the place and the error of a text.
func judge(text string) (int, api.Errno) {
	if !form.MatchString(text) {
		for i := range len(text) {
			if !begins(text[:i+1]) {
				return i, api.ErrDigit
			}
		}
		return len(text), api.ErrDigit
	}
	number := func(s string) *big.Int { n, _ := new(big.Int).SetString(s, 10); return n }
	head, tail, _ := strings.Cut(text, ":")
	size := number(head)
	if size.Cmp(big.NewInt(4096)) > 0 {
		return 0, api.ErrUniverse
	}
	at := len(head) + 1
	before := big.NewInt(-2)
	for _, run := range strings.FieldsFunc(tail, func(c rune) bool { return c == ',' }) {
		gap := int64(2)
		for _, part := range strings.Split(run, "-") {
			n := number(part)
			if n.Cmp(size) >= 0 {
				return at, api.ErrElement
			}
			if new(big.Int).Sub(n, before).Cmp(big.NewInt(gap)) < 0 {
				return at, api.ErrArg
			}
			before, gap, at = n, 1, at+len(part)+1
		}
	}
	return 0, api.OK
}

// P3.9: all short texts.
func TestParseAllShortTexts(t *testing.T) {
	t.Parallel()
	level := []string{""}
	for range 7 {
		var next []string
		for _, text := range level {
			at, want := judge(text)
			s, got, err := bitset.Parse(text)
			if got != at || err != want {
				t.Errorf("Parse(%q): place %d, error %d, want place %d, error %d", text, got, err, at, want)
			}
			if err == api.OK {
				if again, _ := bitset.Print(s); again != text {
					t.Errorf("Parse takes %q, Print gives %q", text, again)
				}
			}
			if begins(text) {
				for _, c := range "01249:-,x" {
					next = append(next, text+string(c))
				}
			}
		}
		level = next
	}
}

// P3.9: texts with a byte changed, put in or left out.
func TestParseChangedTexts(t *testing.T) {
	t.Parallel()
	d := dice(77)
	for range 3000 {
		s := d.set(1+d.next(300), 2+d.next(3))
		text := plainText(s)
		i := d.next(len(text))
		c := string("0123456789:-,"[d.next(13)])
		for _, changed := range []string{text[:i] + c + text[i+1:], text[:i] + c + text[i:], text[:i] + text[i+1:], text[:i]} {
			at, want := judge(changed)
			if _, got, err := bitset.Parse(changed); got != at || err != want {
				t.Errorf("Parse(%q): place %d, error %d, want place %d, error %d", changed, got, err, at, want)
			}
		}
	}
}
