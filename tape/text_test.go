package tape_test

import (
	"fmt"
	"regexp"
	"slices"
	"strings"
	"testing"

	"slope/api"
	"slope/rational"
	"slope/tape"
)

// wantText fails if Print answers something else.
func wantText(t *testing.T, x api.Tape, want string) {
	t.Helper()
	if s, e := tape.Print(x); e != api.OK || s != want {
		t.Errorf("Print(%s): %q, %d, want %q", short(show(x)), short(s), e, short(want))
	}
}

// wantFault fails if a text is not refused so.
func wantFault(t *testing.T, text string, at int, e api.Errno) {
	t.Helper()
	x, gotAt, got := tape.Parse(text)
	if gotAt != at || got != e || show(x) != show(api.Tape{}) {
		t.Errorf("Parse(%q): place %d, error %d, want %d, %d and no tape", short(text), gotAt, got, at, e)
	}
}

// P5.11: the chapter's example 6, and a line of each kind.
func TestPrintExamples(t *testing.T) {
	wantText(t, example(), "inputs 2\nin 0\nin 1\nmul 0 1\nmul 1 0\nadd 2 3\npow 0 -2\nconst 3/2\nout 4\nout 4\n")
	wantText(t, every(), "inputs 2\nin 1\nconst -3/2\nadd 0 1\nsub 2 0\nmul 3 3\ndiv 4 1\nneg 5\npow 6 -3\npow 7 0\nout 8\nout 2\nout 8\n")
	wantText(t, api.Tape{Inputs: 64, Ops: []api.Op{in(63), constant("0"), pow(0, 1024), pow(0, -1024)}, Outs: []int{3}}, "inputs 64\nin 63\nconst 0\npow 0 1024\npow 0 -1024\nout 3\n")
	if x, at, e := tape.Parse("inputs 2\nin 0\nin 1\nmul 0 1\nmul 1 0\nadd 2 3\npow 0 -2\nconst 3/2\nout 4\nout 4\n"); show(x) != show(example()) || at != 0 || e != api.OK {
		t.Errorf("Parse: %s, %d, %d", show(x), at, e)
	}
	if x, at, e := tape.Parse("inputs 2\nin 1\nconst -3/2\nadd 0 1\nsub 2 0\nmul 3 3\ndiv 4 1\nneg 5\npow 6 -3\npow 7 0\nout 8\nout 2\nout 8\n"); show(x) != show(every()) || at != 0 || e != api.OK {
		t.Errorf("Parse: %s, %d, %d", show(x), at, e)
	}
}

// P5.11: lines that are none.
func TestParseLines(t *testing.T) {
	for _, s := range []string{"", "\n", "inputs 0", "inputs", "inputs \n", "inputs\n", "inputs x\n", "inputs 0 \n", " inputs 0\n", "inputs  0\n", "inputs -1\n", "inputs 01\n", "inputs +1\n", "inputs 1 2\n", "Inputs 1\n", "in 0\n", "out 0\n", "const 1\n", "inputs 0\r\n", "inputs\t0\n", "\ninputs 0\n", "input 0\n", "inputs 0x1\n", "inputs 1.0\n", "inputs 0# \n", "inputs \xff\n", "inputs ١\n", "inputs 0\x00\n"} {
		wantFault(t, s, 0, api.ErrLine)
	}
	for _, line := range []string{
		"\n", " \n", "in 0", "in 0 \n", " in 0\n", "in  0\n", "in\n", "in \n", "in 00\n", "in 01\n", "in -1\n", "in -0\n", "in +0\n", "in 0 0\n", "in x\n", "IN 0\n", "in 0\r\n", "in\t0\n", "in0\n",
		"inputs 1\n", "0 0\n", " 0\n", "nop 0\n", "add 0\n", "add 0 0 0\n", "add 0  0\n", "add 0 0 \n", "add 0 -1\n", "add -1 0\n", "add 00 0\n", "add 0 00\n", "mul 0,0\n", "neg 0 0\n", "neg -1\n", "neg\n",
		"pow 0\n", "pow 0 -0\n", "pow 0 - 1\n", "pow 0 --1\n", "pow 0 +1\n", "pow 0 01\n", "pow 0 -01\n", "pow 0 -\n", "pow 0 \n", "pow -1 1\n", "pow 0 1 1\n", "pow 0 1/1\n",
		"const\n", "const \n", "const 2/4\n", "const 1/1\n", "const 01\n", "const 1.5\n", "const 1e2\n", "const -0\n", "const 0/1\n", "const +1\n", "const 1/-2\n", "const 1/02\n", "const 1/0\n", "const - 1\n", "const 1 2\n", "const 1/ 2\n", "const x\n", "const 1/2/3\n", "const [1]\n",
		"const " + strings.Repeat("9", 19729) + "\n", "const 1/" + strings.Repeat("9", 19729) + "\n", "out\n", "out \n", "out -1\n", "out 00\n", "out 0 0\n", "out  0\n", "OUT 0\n", "out 0",
	} {
		wantFault(t, "inputs 1\nin 0\n"+line, 2, api.ErrLine)
		if strings.HasSuffix(line, "\n") {
			wantFault(t, "inputs 1\nin 0\n"+line+"out 0\n", 2, api.ErrLine)
		}
	}
	for _, line := range []string{"in 0\n", "const 1\n", "add 0 0\n", "sub 0 0\n", "mul 0 0\n", "div 0 0\n", "neg 0\n", "pow 0 2\n", "inputs 1\n", "\n"} {
		wantFault(t, "inputs 1\nin 0\nout 0\n"+line, 3, api.ErrLine)
		wantFault(t, "inputs 1\nin 0\nout 0\nout 0\n"+line+"out 0\n", 4, api.ErrLine)
	}
	wantFault(t, "inputs 1\nin 0\nout 0\n\n", 3, api.ErrLine)
	wantFault(t, "inputs 1\nin 0\nout 0\nout 0", 3, api.ErrLine)
	wantFault(t, "inputs 1\nin 0\nout 0\n ", 3, api.ErrLine)
}

// P5.11: a line that is none comes ahead of what Check says of lines above it.
func TestParseLineFirst(t *testing.T) {
	wantFault(t, "inputs 99\nin 77\nout 5\nout\n", 3, api.ErrLine)
	wantFault(t, "inputs 99\n"+strings.Repeat("in 0\n", 3000)+"x\n", 3001, api.ErrLine)
	wantFault(t, "inputs 1\nin 00\n", 1, api.ErrLine)
}

// P5.11: Check's errors, by the lines.
func TestParseChecks(t *testing.T) {
	for _, c := range []struct {
		text string
		at   int
		e    api.Errno
	}{
		{"inputs 1\nin 0\nout 1\n", 2, api.ErrOut}, {"inputs 0\n", 0, api.ErrOutputs}, {"inputs 1\nin 0\n", 0, api.ErrOutputs}, {"inputs 0\nout 0\n", 1, api.ErrOut},
		{"inputs 65\nin 0\nout 0\n", 0, api.ErrInputs}, {"inputs 65\n", 0, api.ErrInputs}, {"inputs 1\nin 0\n" + strings.Repeat("out 0\n", 65), 0, api.ErrOutputs}, {"inputs 1\n" + strings.Repeat("in 0\n", 2049) + "out 0\n", 0, api.ErrNodes},
		{"inputs 1\nin 1\nout 0\n", 1, api.ErrIndex}, {"inputs 1\nin 0\nneg 1\nout 0\n", 2, api.ErrOperand}, {"inputs 1\nin 0\nadd 0 1\nout 9\n", 2, api.ErrOperand}, {"inputs 1\nin 0\npow 0 1025\nout 1\n", 2, api.ErrPower}, {"inputs 1\nin 0\npow 0 -1025\nout 1\n", 2, api.ErrPower},
		{"inputs 1\nin 0\nout 0\nout 1\n", 3, api.ErrOut},
	} {
		wantFault(t, c.text, c.at, c.e)
	}
	must(t, "inputs 64\nin 63\n"+strings.Repeat("out 0\n", 64))
	must(t, "inputs 1\n"+strings.Repeat("in 0\n", 2048)+"out 2047\n")
}

// P5.11: whole numbers of any length; what is above 2^40 counts as that.
func TestParseGreat(t *testing.T) {
	for _, n := range []string{"64", "1024", "2048", "4294967296", "1099511627775", "1099511627776", "1099511627777", "9223372036854775807", "9223372036854775808", "18446744073709551616", "18446744073709551617", "99999999999999999999", "1" + strings.Repeat("0", 30000)} {
		if n != "64" {
			wantFault(t, "inputs "+n+"\nin 0\nout 0\n", 0, api.ErrInputs)
		}
		if n != "1024" && n != "64" {
			wantFault(t, "inputs 1\nin 0\npow 0 "+n+"\nout 0\n", 2, api.ErrPower)
			wantFault(t, "inputs 1\nin 0\npow 0 -"+n+"\nout 0\n", 2, api.ErrPower)
		}
		wantFault(t, "inputs 1\nin "+n+"\nout 0\n", 1, api.ErrIndex)
		wantFault(t, "inputs 1\nin 0\nneg "+n+"\nout 0\n", 2, api.ErrOperand)
		wantFault(t, "inputs 1\nin 0\nsub 0 "+n+"\nout 0\n", 2, api.ErrOperand)
		wantFault(t, "inputs 1\nin 0\nout "+n+"\n", 2, api.ErrOut)
	}
}

// longText is a tape whose text has so many bytes.
func longText(t *testing.T, bytes int) api.Tape {
	t.Helper()
	x := api.Tape{Inputs: 1, Outs: []int{0}}
	left := bytes - len("inputs 1\nout 0\n")
	for left > 0 {
		digits := min(left, 15000) - len("const \n")
		if rest := left - 15000; rest > 0 && rest < 100 {
			digits -= 1000
		}
		x.Ops = append(x.Ops, constant(strings.Repeat("7", digits)))
		left -= digits + len("const \n")
	}
	return x
}

// P5.11: texts of MaxText bytes and one more, printed and read.
func TestTextEdge(t *testing.T) {
	x := longText(t, api.MaxText)
	s, e := tape.Print(x)
	if e != api.OK || len(s) != api.MaxText {
		t.Fatalf("Print: %d bytes, %d", len(s), e)
	}
	wantTape(t, "the longest text", must(t, s), x)
	if s, e := tape.Print(longText(t, api.MaxText+1)); e != api.ErrText || s != "" {
		t.Errorf("Print: %d bytes, %d", len(s), e)
	}
	// the last line alone is too much
	last := longText(t, api.MaxText-len("out 0\n")+1)
	last.Outs = append(last.Outs, 0)
	if s, e := tape.Print(last); e != api.ErrText || s != "" {
		t.Errorf("Print: %d bytes, %d", len(s), e)
	}
	wantFault(t, s+"\n", 0, api.ErrText)
	wantFault(t, strings.Repeat("x", api.MaxText), 0, api.ErrLine)
	wantFault(t, strings.Repeat("x", api.MaxText+1), 0, api.ErrText)
	wantFault(t, s[:api.MaxText-1]+"x\n", 0, api.ErrText)
	wantFault(t, s[:api.MaxText-2]+"\nx", 6, api.ErrLine)
}

// P5.12: there and back over tapes of every kind.
func TestThereAndBack(t *testing.T) {
	t.Parallel()
	d := dice(9)
	l := []api.Tape{example(), every()}
	for range 3000 {
		l = append(l, d.tape(20), d.heavy())
	}
	for _, x := range l {
		s, e := tape.Print(x)
		if e != api.OK {
			t.Fatalf("Print: %d: %s", e, show(x))
		}
		y := must(t, s)
		wantTape(t, s, y, x)
		wantText(t, y, s)
		if _, e := tape.Check(y); e != api.OK {
			t.Fatalf("a tape that may not be: %d", e)
		}
	}
}

// plainRead is the chapter's Parse, by patterns of whole lines.
func plainRead(s string) (string, int, api.Errno) {
	const n, c = `(0|[1-9][0-9]*)`, `(0|-?[1-9][0-9]*(/[1-9][0-9]*)?)`
	first := regexp.MustCompile(`^inputs ` + n + `$`)
	node := regexp.MustCompile(`^((in|neg) ` + n + `|(add|sub|mul|div) ` + n + ` ` + n + `|pow ` + n + ` (0|-?[1-9][0-9]*)|const ` + c + `)$`)
	out := regexp.MustCompile(`^out ` + n + `$`)
	lines := strings.Split(s, "\n")
	outs := false
	for i, line := range lines {
		if i == len(lines)-1 {
			if line != "" || i == 0 {
				return "", i, api.ErrLine
			}
			break
		}
		isOut := i > 0 && out.MatchString(line)
		outs = outs || isOut
		isNode := i > 0 && !outs && node.MatchString(line)
		if r, told := strings.CutPrefix(line, "const "); isNode && told {
			v, _, e := rational.Parse(r)
			p, _ := rational.Print(v)
			isNode = e == api.OK && p == r
		}
		if !isOut && !isNode && !(i == 0 && first.MatchString(line)) {
			return "", i, api.ErrLine
		}
	}
	return "a tape", 0, api.OK
}

// P5.11: texts that are spoilt at random are refused where the patterns say.
func TestParsePlain(t *testing.T) {
	t.Parallel()
	d := dice(10)
	refused, read := 0, 0
	for range 6000 {
		x := d.tape(5)
		text, _ := tape.Print(x)
		b := []byte(text)
		for range d.next(3) {
			at := d.next(len(b))
			switch d.next(4) {
			case 0:
				b = slices.Delete(b, at, at+1)
			case 1:
				b = slices.Insert(b, at, pick(&d, []byte(" \n-0123/.9inout#x\xff")...))
			case 2:
				b[at] = pick(&d, []byte(" \n-0123/.9inout#x\xff")...)
			default:
				b = b[:at]
			}
			if len(b) == 0 {
				break
			}
		}
		s := string(b)
		_, at, e := plainRead(s)
		y, gotAt, got := tape.Parse(s)
		if e == api.ErrLine {
			refused++
			if gotAt != at || got != e {
				t.Errorf("Parse(%q): place %d, error %d, want %d, %d", s, gotAt, got, at, e)
			}
			continue
		}
		if got == api.ErrLine {
			t.Errorf("Parse(%q): place %d, error %d, but each line is one", s, gotAt, got)
		}
		if got == api.OK {
			read++
			if told, _ := tape.Print(y); told != s {
				t.Errorf("Print of Parse(%q): %q", s, told)
			}
		}
	}
	if refused < 1000 || read < 1000 {
		t.Errorf("%d texts refused, %d read", refused, read)
	}
}

// P5.11: long constants that Print gives are read.
func TestParseLongConstants(t *testing.T) {
	for _, r := range []api.Rat{power2(65535), over(power2(65535)), {Neg: true, Num: power2(65535).Num, Den: api.Nat{3}}} {
		x := api.Tape{Ops: []api.Op{{Kind: api.OpConst, C: r}}, Outs: []int{0}}
		s, e := tape.Print(x)
		if e != api.OK {
			t.Fatalf("Print: %d", e)
		}
		wantTape(t, fmt.Sprint(len(s), " bytes"), must(t, s), x)
	}
}
