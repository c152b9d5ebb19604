package formula_test

import (
	"math/big"
	"regexp"
	"slices"
	"strings"
	"testing"

	"slope/api"
	"slope/formula"
)

// What may stand in a text, as patterns.
var (
	skip      = regexp.MustCompile(`^([ \t\r]+|#[^\n]*)`)
	word      = regexp.MustCompile(`^[a-zA-Z_][a-zA-Z_0-9]*`)
	plain     = regexp.MustCompile(`^[0-9]+(\.[0-9]*)?`)
	bracketed = regexp.MustCompile(`^\[-?([0-9]+)(/([0-9]+))?\]`)
	mark      = regexp.MustCompile(`^[-,=+*/^()]`)
	runsOn    = regexp.MustCompile(`^[a-zA-Z_.]`)
)

// plainTokens are a text's tokens, cut off by patterns, with their places, or the first fault.
func plainTokens(text string) ([]string, []int, int, api.Errno) {
	if len(text) > api.MaxText {
		return nil, nil, api.MaxText, api.ErrText
	}
	var l []string
	var places []int
	begun := false
	for at := 0; at <= len(text); {
		rest := text[at:]
		s := ""
		switch {
		case rest == "" || rest[0] == '\n':
			if !begun {
				at++
				continue
			}
			s = "\n"
		case skip.MatchString(rest):
			at += len(skip.FindString(rest))
			continue
		case word.MatchString(rest):
			if s = word.FindString(rest); len(s) > 31 {
				return nil, nil, at, api.ErrName
			}
		case plain.MatchString(rest):
			s = plain.FindString(rest)
			if len(s) > 1000 || strings.HasSuffix(s, ".") || runsOn.MatchString(rest[len(s):]) {
				return nil, nil, at, api.ErrNumber
			}
		case rest[0] == '[':
			g := bracketed.FindStringSubmatch(rest)
			if g == nil || tooBig(g[1]) || tooBig(g[3]) || g[3] != "" && strings.Trim(g[3], "0") == "" || runsOn.MatchString(rest[len(g[0]):]) {
				return nil, nil, at, api.ErrNumber
			}
			s = g[0]
		case mark.MatchString(rest):
			s = rest[:1]
		default:
			return nil, nil, at, api.ErrByte
		}
		if len(l) == 16384 {
			return nil, nil, at, api.ErrTokens
		}
		l, places = append(l, s), append(places, at)
		at += len(s)
		begun = s != "\n"
	}
	return l, places, 0, api.OK
}

// tooBig tells whether digits make 2^65536 or more.
func tooBig(digits string) bool {
	n, ok := new(big.Int).SetString(digits, 10)
	return ok && n.BitLen() > 65536
}

// checkTokens holds Tokens against the patterns.
func checkTokens(t *testing.T, text string) {
	t.Helper()
	want, _, wantAt, wantErr := plainTokens(text)
	got, at, e := formula.Tokens(text)
	if at != wantAt || e != wantErr || !slices.Equal(got, want) {
		t.Errorf("Tokens(%q): %q, place %d, error %d, want %q, place %d, error %d", short(text), got[:min(len(got), 20)], at, e, want[:min(len(want), 20)], wantAt, wantErr)
	}
}

// wantTokens fails if it is not that list, divided by blanks; ; is a line's end.
func wantTokens(t *testing.T, text, want string) {
	t.Helper()
	l := strings.Fields(want)
	for i, s := range l {
		l[i] = strings.ReplaceAll(s, ";", "\n")
	}
	if got, at, e := formula.Tokens(text); at != 0 || e != api.OK || !slices.Equal(got, l) {
		t.Errorf("Tokens(%q): %q, place %d, error %d", text, got, at, e)
	}
	checkTokens(t, text)
}

// wantNoTokens fails if the text is not refused so, by Tokens and by Parse.
func wantNoTokens(t *testing.T, text string, at int, e api.Errno) {
	t.Helper()
	if l, gotAt, got := formula.Tokens(text); len(l) > 0 || gotAt != at || got != e {
		t.Errorf("Tokens(%q): %d tokens, place %d, error %d, want place %d, error %d", short(text), len(l), gotAt, got, at, e)
	}
	wantFault(t, text, at, e)
	checkTokens(t, text)
}

// P4.1
func TestTokens(t *testing.T) {
	wantTokens(t, "", "")
	wantTokens(t, "out 1 # one\n\n", "out 1 ;")
	wantTokens(t, "in x, y\nlet u = x*y + 1.5\nout u^2/(x - y), sum(x, u)", "in x , y ; let u = x * y + 1.5 ; out u ^ 2 / ( x - y ) , sum ( x , u ) ;")
	wantTokens(t, "x", "x ;")
	wantTokens(t, "x\n", "x ;")
	wantTokens(t, "\n\n x\n\n", "x ;")
	wantTokens(t, "\r\n\t\r\n# a\n \t# b\r\n", "")
	wantTokens(t, "x\r\ny\r\n", "x ; y ;")
	wantTokens(t, "a#b\nc##d\n#", "a ; c ;")
	wantTokens(t, "x # \x00\xff$.[ 3x\ny", "x ; y ;")
	wantTokens(t, "--x^-2", "- - x ^ - 2 ;")
	wantTokens(t, "insum in sum fn9 _ __a A_0", "insum in sum fn9 _ __a A_0 ;")
	wantTokens(t, "007 0.250 00.0", "007 0.250 00.0 ;")
	wantTokens(t, "[0][-0][-6/4][007/0010]", "[0] [-0] [-6/4] [007/0010] ;")
	wantTokens(t, "[1]2", "[1] 2 ;")
	wantTokens(t, "1[2]", "1 [2] ;")
	wantTokens(t, "x[2]3(4)5", "x [2] 3 ( 4 ) 5 ;")
	wantTokens(t, "1,2=3+4-5*6/7^8(9)0", "1 , 2 = 3 + 4 - 5 * 6 / 7 ^ 8 ( 9 ) 0 ;")
	wantTokens(t, "1#x", "1 ;")
	wantTokens(t, "1\tx\r y", "1 x y ;")
}

// P4.1: bytes with which no token begins, and all others.
func TestTokensByteByByte(t *testing.T) {
	for c := range 256 {
		s := string([]byte{byte(c)})
		for _, text := range []string{s, "x" + s, "1" + s, "x " + s, "\n" + s + "1", "#" + s, s + "]", "[" + s + "]", "[1" + s, "1." + s} {
			checkTokens(t, text)
		}
		if !strings.Contains(" \t\r\n#,=+-*/^()_", s) && !(c >= '0' && c <= '9' || c|32 >= 'a' && c|32 <= 'z') && s != "[" {
			wantNoTokens(t, "x "+s+" y", 2, api.ErrByte)
		}
	}
	wantNoTokens(t, "out .5", 4, api.ErrByte)
	wantNoTokens(t, "out x.5", 5, api.ErrByte)
	wantNoTokens(t, "out 1]", 5, api.ErrByte)
	wantNoTokens(t, "out 3\xc3\xa9", 5, api.ErrByte)
	wantNoTokens(t, "in x\nout x $ 1", 11, api.ErrByte)
}

// P4.1: all texts of up to five bytes out of some.
func TestTokensOfShortTexts(t *testing.T) {
	t.Parallel()
	bytes := "x10.[]-/# \n$"
	var grow func(s string)
	grow = func(s string) {
		checkTokens(t, s)
		for i := range len(bytes) {
			if len(s) < 5 || len(s) == 5 && s[0] == '[' {
				grow(s + bytes[i:i+1])
			}
		}
	}
	grow("")
}

// P4.1: longer texts at random.
func TestTokensAtRandom(t *testing.T) {
	d := dice(1)
	pieces := []string{"x", "let", "_9", "1", "20", "1.5", "[3/4]", "[-1]", "+", "-", "(", ")", ",", "^", "=", " ", " ", " ", "\n", "\t", "\r\n", "# c", "#\n", ".", "[", "]", "$", "/", "*"}
	for range 20000 {
		var s strings.Builder
		for range 1 + d.next(12) {
			s.WriteString(pieces[d.next(len(pieces))])
		}
		checkTokens(t, s.String())
	}
}

// P4.1: names of MaxName bytes, and of one more.
func TestTokensNames(t *testing.T) {
	n := strings.Repeat("n", 31)
	wantTokens(t, n+" _"+n[1:]+" "+n[:30]+"9", n+" _"+n[1:]+" "+n[:30]+"9 ;")
	wantNoTokens(t, "in "+n+"n", 3, api.ErrName)
	wantNoTokens(t, "in "+n+"0", 3, api.ErrName)
	wantNoTokens(t, "in "+n+"_", 3, api.ErrName)
	wantNoTokens(t, "1 "+strings.Repeat("_", 60000), 2, api.ErrName)
	wantNoTokens(t, "in "+n+"n $", 3, api.ErrName)
	wantNoTokens(t, "$ "+n+"n", 0, api.ErrByte)
}

// P4.1: numbers of MaxDigits bytes, and of one more; bracketed ones may be longer.
func TestTokensNumbers(t *testing.T) {
	nines := strings.Repeat("9", 1000)
	wantTokens(t, "x "+nines, "x "+nines+" ;")
	wantTokens(t, nines[:500]+"."+nines[:499], nines[:500]+"."+nines[:499]+" ;")
	wantTokens(t, "0."+nines[:998], "0."+nines[:998]+" ;")
	wantTokens(t, strings.Repeat("0", 1000), strings.Repeat("0", 1000)+" ;")
	wantNoTokens(t, "x "+nines+"9", 2, api.ErrNumber)
	wantNoTokens(t, "x "+nines[:500]+"."+nines[:500], 2, api.ErrNumber)
	wantNoTokens(t, "x 0."+nines[:999], 2, api.ErrNumber)
	wantNoTokens(t, "x "+strings.Repeat("0", 1001), 2, api.ErrNumber)
	wantTokens(t, "["+nines+"9]", "["+nines+"9] ;")
	wantTokens(t, "[-"+nines+nines+"/"+nines+nines+"]", "[-"+nines+nines+"/"+nines+nines+"] ;")
	wantTokens(t, "["+strings.Repeat("0", 60000)+"1]", "["+strings.Repeat("0", 60000)+"1] ;")
	for _, s := range []string{"1.", "1.x", "1. 5", "1..5", "1.5.", "1.5.6", "3x", "3_", "3.5x", "3X", "1e5", "[1]x", "[1/2]_", "[1].", "[1].5"} {
		wantNoTokens(t, "out "+s, 4, api.ErrNumber)
		wantNoTokens(t, "out "+s+" $", 4, api.ErrNumber)
	}
	for _, s := range []string{"[", "[]", "[-]", "[/]", "[1/]", "[/1]", "[1", "[1/2", "[ 1]", "[1 ]", "[1 /2]", "[--1]", "[+1]", "[1/-2]", "[1.5]", "[x]", "[1]]", "[[1]]", "[1/2/3]", "[1\n]", "[1#]"} {
		if s != "[1]]" {
			wantNoTokens(t, "out "+s, 4, api.ErrNumber)
		}
		checkTokens(t, "out "+s)
	}
	wantNoTokens(t, "out [1]]", 7, api.ErrByte)
}

// P4.1: a 0 below the /, and naturals that are too big.
func TestTokensNumbersThatAreNone(t *testing.T) {
	for _, s := range []string{"[1/0]", "[0/0]", "[-1/000]", "[0/" + strings.Repeat("0", 30000) + "]"} {
		wantNoTokens(t, "x "+s, 2, api.ErrNumber)
	}
	big1 := new(big.Int).Lsh(big.NewInt(1), 65536)
	least := big1.String()
	most := big1.Sub(big1, big.NewInt(1)).String()
	for _, s := range []string{"[" + most + "]", "[-" + most + "/2]", "[1/" + most + "]", "[" + most + "/" + most + "]", "[000" + most + "]"} {
		wantTokens(t, s, s+" ;")
	}
	for _, s := range []string{"[" + least + "]", "[-" + least + "/2]", "[1/" + least + "]", "[" + least + "/" + least + "]", "[000" + least + "]", "[0/" + least + "]", "[" + least + "0]"} {
		wantNoTokens(t, "x\n"+s, 2, api.ErrNumber)
	}
}

// P4.1: texts of MaxText bytes, and of one more.
func TestTokensLongTexts(t *testing.T) {
	for _, s := range []string{" ", "\n", "#"} {
		wantTokens(t, strings.Repeat(s, 65536), "")
		wantNoTokens(t, strings.Repeat(s, 65537), 65536, api.ErrText)
	}
	wantTokens(t, "x"+strings.Repeat(" ", 65535), "x ;")
	wantNoTokens(t, "x"+strings.Repeat(" ", 65536), 65536, api.ErrText)
	wantNoTokens(t, strings.Repeat("$", 65537), 65536, api.ErrText)
	wantNoTokens(t, strings.Repeat("$", 65536), 0, api.ErrByte)
	wantNoTokens(t, strings.Repeat(" ", 65535)+"$", 65535, api.ErrByte)
	wantNoTokens(t, strings.Repeat("x", 100000), 65536, api.ErrText)
}

// P4.1: MaxTokens tokens, and one more; lines' ends count.
func TestTokensMany(t *testing.T) {
	t.Parallel()
	if l, at, e := formula.Tokens(strings.Repeat("+", 16383)); len(l) != 16384 || at != 0 || e != api.OK {
		t.Errorf("%d tokens, place %d, error %d", len(l), at, e)
	}
	if l, at, e := formula.Tokens(strings.Repeat("+\n", 8192)); len(l) != 16384 || at != 0 || e != api.OK {
		t.Errorf("%d tokens, place %d, error %d", len(l), at, e)
	}
	plus := strings.Repeat("+", 16384)
	wantNoTokens(t, plus, 16384, api.ErrTokens)
	wantNoTokens(t, plus+" # c\n x", 16388, api.ErrTokens)
	wantNoTokens(t, plus+"\n", 16384, api.ErrTokens)
	wantNoTokens(t, plus+" x $", 16385, api.ErrTokens)
	wantNoTokens(t, strings.Repeat("+\n", 8192)+"\n\n x", 16387, api.ErrTokens)
	wantNoTokens(t, plus+" $", 16385, api.ErrByte)
	wantNoTokens(t, plus+" 3x", 16385, api.ErrNumber)
	wantNoTokens(t, plus+" [1/0]", 16385, api.ErrNumber)
	wantNoTokens(t, plus+" "+strings.Repeat("n", 32), 16385, api.ErrName)
	wantNoTokens(t, "$"+plus, 0, api.ErrByte)
	wantNoTokens(t, strings.Repeat("+", 16383)+"x$", 16384, api.ErrByte)
}
