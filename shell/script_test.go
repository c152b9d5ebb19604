package shell_test

import (
	"strings"
	"testing"

	"slope/api"
	"slope/formula"
	"slope/shell"
	"slope/tape"
)

// P18.2: lines and words: newlines alone end a line; spaces, tabs and carriage returns alone stand between words; lines without words and such as begin with # mean nothing.
func TestLinesAndWords(t *testing.T) {
	for _, c := range []struct{ script, want string }{
		{"", ""},
		{"\n", ""},
		{"\n\n\n", ""},
		{" \t\r\n\r\n\t", ""},
		{"#", ""},
		{"# way\n  # way\n#way\n\t##\r\n#\n", ""},
		{"way", "> way\n"},
		{"way\n", "> way\n"},
		{"way\n\n", "> way\n"},
		{"\nway", "> way\n"},
		{" way ", "> way\n"},
		{"\t\r way \t fold\r\tcopy\r\n", "> way fold copy\n"},
		{"way\nway\r\nway\n", "> way\n> way\n> way\n"},
		{"way\rfold", "> way fold\n"},
		{"point 1\t2  3\r\n# c\n\npoint", "> point 1 2 3\n> point\n"},
		// a # that is not at the beginning of the first word is a word's
		{"way # c\n", "> way # c\n! 120 1\n"},
		{"point 1 #2\n", "> point 1 #2\n! 1 2\n"},
		{"way#\n", "> way#\n! 360 0\n"},
		// these bytes are none of the blanks
		{"way\vfold\n", "> way\vfold\n! 360 0\n"},
		{"way\ffold\n", "> way\ffold\n! 360 0\n"},
		{"way\x00\n", "> way\x00\n! 360 0\n"},
		{"way\u00a0fold\n", "> way\u00a0fold\n! 360 0\n"},
		{"way\u2003fold way\u0085\n", "> way\u2003fold way\u0085\n! 360 0\n"},
		{"\xff\xfe \xc3\n", "> \xff\xfe \xc3\n! 360 0\n"},
		{"\v\n", "> \v\n! 360 0\n"},
		// words are just these
		{"Way\nWAY\nways\nwa\n> way\n! 1 0\n", "> Way\n! 360 0\n> WAY\n! 360 0\n> ways\n! 360 0\n> wa\n! 360 0\n> > way\n! 360 0\n> ! 1 0\n! 360 0\n"},
		{"end\n end \nend way\n", "> end\n! 360 0\n> end\n! 360 0\n> end way\n! 360 0\n"},
	} {
		is(t, c.script, c.want)
	}
}

// Texts of model and tape: up to the line whose one word is end, or to the script's end; their lines are no commands.
func TestTexts(t *testing.T) {
	for _, c := range []struct{ script, want string }{
		// with an end, however many blanks stand beside it
		{"model\nin x\nout x\nend\nshow model\n", "> model\nmodel 1 0 0 1 1\n> show model\nin x\nout x\n"},
		{"model\nin x\nout x\n \tend\r\nshow model", "> model\nmodel 1 0 0 1 1\n> show model\nin x\nout x\n"},
		{" \tmodel\r\nin x\r\nout x\r\nend\r\nshow model\r\n", "> model\nmodel 1 0 0 1 1\n> show model\nin x\nout x\n"},
		{"tape\ninputs 1\nin 0\nout 0\nend\nshow tape\n", "> tape\ntape 1 1 1\n> show tape\ninputs 1\nin 0\nout 0\n"},
		{"tape\ninputs 1\nin 0\nout 0\n\tend \nshow tape\n", "> tape\ntape 1 1 1\n> show tape\ninputs 1\nin 0\nout 0\n"},
		// without one: up to the script's end, newline or not
		{"model\nin x\nout x\n", "> model\nmodel 1 0 0 1 1\n"},
		{"model\nin x\nout x", "> model\nmodel 1 0 0 1 1\n"},
		{"tape\ninputs 1\nin 0\nout 0\n", "> tape\ntape 1 1 1\n"},
		{"tape\ninputs 1\nin 0\nout 0", "> tape\ntape 1 1 1\n"},
		{"tape\ninputs 1\nin 0\nout 0\n\n", "> tape\n! 6 3\n"}, // an empty line is one
		{"model\nin x\nout x\nshow model\n", "> model\n! 82 11\n"},
		// an end with other words beside it is a line of the text
		{"model\nin x\nout x\nend x\nend\nway\n", "> model\n! 82 11\n> way\n"},
		{"model\nin end\nout end\nend\nway\n", "> model\nmodel 1 0 0 1 1\n> way\n"},
		{"model\nin x\nout x\n# end\nend # c\nend\nway\n", "> model\n! 82 17\n> way\n"},
		{"tape\ninputs 1\nin 0\nout 0\nend end\nend\nway\n", "> tape\n! 6 3\n> way\n"},
		{"model\nin x\nout x\nEnd\nends\nend\nway\n", "> model\n! 82 11\n> way\n"},
		// lines that look like commands, blank ones and comments are the text's
		{"model\nway\nend\nway\n", "> model\n! 82 0\n> way\n"},
		{"model\n\n# point 1\nin x # y\n\nout x\n\nend\nway\n", "> model\nmodel 1 0 0 1 1\n> way\n"},
		{"model\nmodel\ntape\nend\nend\n", "> model\n! 82 0\n> end\n! 360 0\n"},
		{"tape\n# c\ninputs 1\nend\n", "> tape\n! 6 0\n"},
		{"tape\n\nend\n", "> tape\n! 6 0\n"},
		{"tape\ninputs 1\r\nin 0\r\nout 0\r\nend\n", "> tape\n! 6 0\n"}, // a carriage return is no blank there
		// empty texts
		{"model", "> model\n! 83 0\n"},
		{"model\n", "> model\n! 83 0\n"},
		{"model\nend", "> model\n! 83 0\n"},
		{"model\n\n", "> model\n! 83 1\n"},
		{"model\n\n\nend", "> model\n! 83 2\n"},
		{"tape", "> tape\n! 6 0\n"},
		{"tape\nend\n", "> tape\n! 6 0\n"},
		// behind a command that is refused
		{"model x\nin x\nout x\nend\nway\n", "> model x\n! 1 0\n> way\n"},
		{"model end\nway fold\nend\nway\n", "> model end\n! 1 0\n> way\n"},
		{"tape 1 2\nvalues\nfoo\nend\nway\n", "> tape 1 2\n! 1 0\n> way\n"},
		{"tape #\nway\n", "> tape #\n! 1 0\n"},
		{"model x\nin x\nout x\nend\nshow model\n", "> model x\n! 1 0\n> show model\n! 361 0\n"},
		// other commands have none, and words that are like these neither
		{"models\nway\n", "> models\n! 360 0\n> way\n"},
		{"show model\nway\n", "> show model\n! 361 0\n> way\n"},
		{"# model\nway\n", "> way\n"},
		{"record model\nway\n", "> record model\n! 1 0\n> way\n"},
		// without outputs, without inputs
		{"model\nin x\nend\n", "> model\n! 83 5\n"},
		{"tape\ninputs 1\nin 0\nend\n", "> tape\n! 102 0\n"},
		{"model\nout 1\nend\nrecord\neval\nvalues", "> model\nmodel 0 0 0 1 1\n> record\ntape 0 1 1\n> eval\n1\n> values\n1\n"},
	} {
		is(t, c.script, c.want)
	}
}

// A text is what Parse is given: each line as it stands, with a newline behind it. Its faults have Parse's places.
func TestTextsAreParsed(t *testing.T) {
	for _, text := range []string{
		"", "\n", "in x\nout x\n", "in x\nout x +\n", "in x\nout x ^ 2 ^ 3\n", "out y\n", "in x\n\tout  x\r\n", "in x, x\nout 1\n", "x\n", "in x\nout f(x)\n", "in x\nout (x\n", "in x\nout $\n", "in x\nout 1.\n",
		"inputs 1\nin 0\nout 0\n", "inputs 1\nin 00\nout 0\n", "inputs 0\nconst 2/4\nout 0\n", "inputs 1\nin 1\nout 0\n", "inputs 1\nin 0\npow 0 2000\nout 0\n", "inputs 65\nin 0\nout 0\n", "inputs 1\nin 0\nout 1\n", "inputs 1\nmul 0 0\nout 0\n", " inputs 1\n", "inputs 0\n", "inputs 1\nin 0\nout 0\nin 0\n", "in 0\n",
	} {
		_, at, e := formula.Parse(text)
		want := refusal(at, e)
		if e == api.OK {
			want = "model"
		}
		for _, end := range []string{"", "end", "end\n", "end\nway\n"} {
			if got := chunks(run(t, "model\n"+text+end))[0].lines; len(got) != 1 || !strings.HasPrefix(got[0], want) {
				t.Errorf("model %q: %q, want %s", text, got, want)
			}
		}
		_, at, e = tape.Parse(text)
		want = refusal(at, e)
		if e == api.OK {
			want = "tape"
		}
		for _, end := range []string{"", "end", "end\n", "end\nway\n"} {
			if got := chunks(run(t, "tape\n"+text+end))[0].lines; len(got) != 1 || !strings.HasPrefix(got[0], want) {
				t.Errorf("tape %q: %q, want %s", text, got, want)
			}
		}
	}
}

// P18.1: a script has at most MaxText bytes.
func TestLongScripts(t *testing.T) {
	for _, beginning := range []string{"", "#", "way\n#", "point 1\n\n", "model\nin x\nout x\n#", "foo\n\xff"} {
		full := beginning + strings.Repeat("#", api.MaxText-len(beginning))
		if _, at, e := shell.Run(full); at != 0 || e != api.OK {
			t.Errorf("%q and #: place %d, error %d", beginning, at, e)
		}
		for _, more := range []string{"#", "\n", "####", full} {
			if s, at, e := shell.Run(full + more); s != "" || at != 0 || e != api.ErrText {
				t.Errorf("%q and # and more: %q, place %d, error %d", beginning, short(s), at, e)
			}
		}
	}
	is(t, strings.Repeat(" ", api.MaxText), "")
	is(t, strings.Repeat("\n", api.MaxText), "")
	is(t, strings.Repeat(" ", api.MaxText-3)+"way", "> way\n")
	// a word of MaxText bytes
	long := strings.Repeat("x", api.MaxText)
	is(t, long, "> "+long+"\n! 360 0\n")
	// the length is looked at ahead of the commands
	if s, at, e := shell.Run(strings.Repeat("way\n", 20000)); s != "" || at != 0 || e != api.ErrText {
		t.Errorf("too long, too many: %q, place %d, error %d", short(s), at, e)
	}
}

// P18.1: a script has at most MaxLines commands; the place of the next one is its line's number.
func TestManyCommands(t *testing.T) {
	refused := func(script string, line int) {
		t.Helper()
		if s, at, e := shell.Run(script); s != "" || at != line || e != api.ErrText {
			t.Errorf("%q, place %d, error %d; want place %d", short(s), at, e, line)
		}
	}
	most := strings.Repeat("way\n", api.MaxLines)
	is(t, most, strings.Repeat("> way\n", api.MaxLines))
	is(t, strings.TrimSuffix(most, "\n"), strings.Repeat("> way\n", api.MaxLines))
	refused(most+"way", 1025)
	refused(most+"way\n", 1025)
	refused(most+"foo\nfoo\n", 1025)
	refused(most+"\n# c\n \t\n  way\nway\n", 1028)
	refused("\n\n#\n"+most+"model\nin x\nout x\nend\n", 1028)
	// what means nothing doesn't count
	is(t, most+"\n\n# c\n\r\n", strings.Repeat("> way\n", api.MaxLines))
	is(t, strings.Repeat("# c\n\nway\n", api.MaxLines), strings.Repeat("> way\n", api.MaxLines))
	refused(strings.Repeat("# c\n\nway\n", api.MaxLines)+"way", 3*api.MaxLines+1)
	// what is refused does
	is(t, strings.Repeat("foo\n", api.MaxLines), strings.Repeat("> foo\n! 360 0\n", api.MaxLines))
	refused(strings.Repeat("foo\n", api.MaxLines)+"way", 1025)
	refused(strings.Repeat("end\n", api.MaxLines+1), 1025)
	// the lines of texts, and those that end them, do not
	model := "model\n" + strings.Repeat("way\n", 2000) + "end\n"
	is(t, model, "> model\n! 82 0\n")
	is(t, model+strings.Repeat("way\n", api.MaxLines-1), "> model\n! 82 0\n"+strings.Repeat("> way\n", api.MaxLines-1))
	refused(model+most, 2002+1024)
	is(t, strings.Repeat("tape\nend\n", api.MaxLines), strings.Repeat("> tape\n! 6 0\n", api.MaxLines))
	refused(strings.Repeat("tape\nend\n", api.MaxLines)+"tape\nend\n", 2049)
	is(t, strings.Repeat("way\n", api.MaxLines-1)+"model\n"+strings.Repeat("way\n", 5000), strings.Repeat("> way\n", api.MaxLines-1)+"> model\n! 82 0\n")
}
