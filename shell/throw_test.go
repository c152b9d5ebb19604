package shell_test

import (
	"fmt"
	"strings"
)

// theme is what the scripts of one throw speak of: how many inputs and outputs.
type theme struct{ inputs, outputs int }

func (d *dice) theme() theme {
	n := pick(d, 0, 1, 2, 2, 3, 3, 4)
	return theme{n, pick(d, 1, 2, 3, max(n, 1), max(n, 1))}
}

// script is commands at random, each with its text; those of the first ones are mostly such that others have something to work on.
func (d *dice) script(n int) []string {
	th := d.theme()
	l := []string{}
	for _, part := range []string{d.modelPart(th), "record\n", d.listPart("point", th.inputs), d.listPart("weights", th.outputs), d.listPart("along", th.inputs)} {
		if d.next(8) > 0 {
			l = append(l, part)
		}
	}
	for len(l) < n {
		l = append(l, d.part(th))
	}
	return l
}

// part is a command at random, with its text.
func (d *dice) part(th theme) string {
	switch d.next(22) {
	case 0:
		return d.modelPart(th)
	case 1:
		return d.tapePart(th)
	case 2:
		return d.spoilt(pick(d, d.modelPart(th), d.tapePart(th)))
	case 3:
		return d.line(pick(d, commands()...), d.words(d.next(4))...)
	case 4:
		return d.line(pick(d, "foo", "end", "Model", "x", ">", "values:"), d.words(d.next(3))...)
	case 5:
		return pick(d, "\n", "# c\n", " \t\r\n", "#model\n", "  # way x\n")
	case 6, 7:
		return d.listPart(pick(d, "point", "along"), th.inputs)
	case 8:
		return d.listPart("weights", th.outputs)
	case 9:
		return d.listPart("solve", th.outputs)
	case 10, 11, 12, 13:
		return d.settingPart(th)
	case 14, 15:
		return d.line(pick(d, "diff "+d.name(th), "gradient "+fmt.Sprint(d.next(th.outputs+1)), "fix "+d.name(th)+" "+d.number(), "simplify", "flat", "tell", "record", "record", "record"))
	case 16:
		return d.line(pick(d, "trim", "merge", "clean", "blend"))
	}
	return d.line(pick(d, "show model", "show tape", "text", "eval", "values", "jacobian", "jacobian", "hessian", "hessian", "patterns", "colours", "series "+fmt.Sprint(d.next(5)), "rank", "det", "newton "+fmt.Sprint(d.next(3))))
}

// settingPart sets a way or something of the plan.
func (d *dice) settingPart(th theme) string {
	switch d.next(5) {
	case 0:
		return d.line("way", []string{"copy", "balance", "fold"}[d.next(3):][:d.next(2)]...)
	case 1:
		return d.line("mode", pick(d, "columns", "rows", "dense"))
	case 2:
		return d.line("route", pick(d, "star", "acyclic", "push", "dense"))
	case 3:
		return d.line("workers", pick(d, "1", "2", "3", "16", "4/2", "0", "17", "-1"))
	}
	if d.next(2) > 0 {
		return d.line("order", pick(d, "natural", "largest", "smallest", "incidence"))
	}
	words := []string{"script"}
	for _, v := range d.shuffle(pick(d, th.inputs, th.inputs, th.outputs, d.next(5))) {
		words = append(words, fmt.Sprint(v))
	}
	return d.line("order", words...)
}

// listPart is numbers, mostly so many.
func (d *dice) listPart(word string, n int) string {
	var l []string
	for range pick(d, n, n, n, n, n, n, n, d.next(5)) {
		l = append(l, d.number())
	}
	return d.line(word, l...)
}

func (d *dice) number() string {
	return pick(d, "0", "1", "1", "-1", "2", "2", "3", "1/2", "-7/3", "0.25", "1e1", "5/4", "07", "4/6", fmt.Sprint(d.next(50)), fmt.Sprintf("%d/13", d.next(99)+1))
}

// words are arguments at random, of all sorts.
func (d *dice) words(n int) []string {
	var l []string
	for range n {
		l = append(l, pick(d, "x", "y", "z", "0", "1", "2", "-1", "1/2", "1/0", "1.", "+1", "99999999999999999999", "model", "tape", "copy", "balance", "fold", "fold", "columns", "rows", "dense", "star", "push", "natural", "largest", "script", "script", "foo", "#", "end"))
	}
	return l
}

// line is a command's line, with blanks of all sorts.
func (d *dice) line(word string, arguments ...string) string {
	blank := func() string { return pick(d, " ", " ", " ", " ", "  ", "\t", "\r", " \t \r") }
	s := pick(d, "", "", "", " ", "\t") + word
	for _, a := range arguments {
		s += blank() + a
	}
	return s + pick(d, "", "", "", " ", "\r", "\t ") + "\n"
}

// modelPart is the command model with a text that mostly is one.
func (d *dice) modelPart(th theme) string {
	names := []string{"x", "y", "z", "w"}[:th.inputs]
	s := d.line("model")
	if len(names) > 0 {
		s += "in " + strings.Join(names, ", ") + "\n"
	}
	if d.next(3) == 0 {
		s += pick(d, "# a function\n", "\n", "") + "fn f(a, b) = " + d.expression([]string{"a", "b"}, 2, false) + "\n"
		s += "let u = f(" + d.expression(names, 1, false) + ", " + d.expression(names, 1, false) + ")\n"
		names = append(names[:len(names):len(names)], "u")
	} else if d.next(2) == 0 {
		s += "let v = " + d.expression(names, 2, false) + "\n"
		names = append(names[:len(names):len(names)], "v", "v")
	}
	var outs []string
	for range th.outputs {
		outs = append(outs, d.expression(names, 2, true))
	}
	return s + "out " + strings.Join(outs, ", ") + "\n" + d.end()
}

// end ends a text, and seldom does not.
func (d *dice) end() string {
	return pick(d, "end\n", "end\n", "end\n", "end\n", "end\n", "end\n", " end\n", "\tend\r\n", "end\t\n", "end\n", "end\n", pick(d, "", "end x\nend\n", "end #\nend\n", "END\nend\n"))
}

// expression is one over these names.
func (d *dice) expression(names []string, deep int, quotients bool) string {
	if deep == 0 || d.next(6) == 0 {
		if len(names) > 0 && d.next(4) > 0 {
			return pick(d, names...)
		}
		return pick(d, "0", "1", "2", "3", "0.5", "[-1/3]", "[5/2]")
	}
	a, b := d.expression(names, deep-1, quotients), d.expression(names, deep-1, quotients)
	if quotients && d.next(5) == 0 {
		return "(" + a + ") / (" + b + ")"
	}
	switch d.next(7) {
	case 0, 1:
		return "(" + a + ") * (" + b + ")"
	case 2:
		return a + " + " + b
	case 3:
		return a + " - (" + b + ")"
	case 4:
		return "(" + a + ") ^ " + pick(d, "0", "1", "2", "2", "3", "-1", "-2")
	case 5:
		return "sum(" + strings.Join([]string{a, b, pick(d, a, b, "1")}[d.next(4):], ", ") + ")"
	}
	return "prod(" + strings.Join([]string{a, b, b}[d.next(2):], ", ") + ")"
}

// tapePart is the command tape with a text that mostly is one.
func (d *dice) tapePart(th theme) string {
	s := d.line("tape") + fmt.Sprintf("inputs %d\n", th.inputs)
	n := 0
	for i := range th.inputs {
		s += fmt.Sprintf("in %d\n", i)
		n++
	}
	for range 1 + d.next(7) {
		a, b := d.next(n+1), d.next(n+1)
		switch {
		case a == n || b == n:
			s += "const " + pick(d, "0", "1", "2", "-3/2", "2/3") + "\n"
		case d.next(5) == 0:
			s += fmt.Sprintf("pow %d %d\n", a, d.next(6)-2)
		case d.next(8) == 0:
			s += fmt.Sprintf("neg %d\n", a)
		default:
			s += fmt.Sprintf("%s %d %d\n", pick(d, "add", "sub", "mul", "mul", "div"), a, b)
		}
		n++
	}
	for range th.outputs {
		s += fmt.Sprintf("out %d\n", n-1-d.next(min(n, 4)))
	}
	return s + d.end()
}

// spoilt is a text with something wrong in it, mostly.
func (d *dice) spoilt(s string) string {
	i := strings.IndexByte(s, '\n') + 1
	at := i + d.next(len(s)-i)
	switch d.next(3) {
	case 0:
		return s[:at] + pick(d, "$", "x", " ", "\n", "1", ",", "(", "end\n", "-", "\r") + s[at:]
	case 1:
		return s[:at] + strings.TrimSuffix(s[at+1:], "\n") + "\n"
	}
	return s[:at] + "\nend\n"
}

// name is an input's, mostly.
func (d *dice) name(th theme) string {
	return pick(d, "x", []string{"x", "y", "z", "w"}[d.next(max(1, th.inputs))], []string{"x", "y", "z", "w"}[d.next(max(1, th.inputs))], "u")
}

// shuffle is an order at random of n things.
func (d *dice) shuffle(n int) []int {
	var l []int
	for i := range n {
		k := d.next(i + 1)
		l = append(l, i)
		l[i], l[k] = l[k], l[i]
	}
	return l
}
