package shell_test

import (
	"fmt"
	"math/big"
	"slices"
	"strings"

	"slope/api"
	"slope/engine"
	"slope/formula"
	"slope/rational"
	"slope/record"
	"slope/series"
	"slope/solve"
	"slope/symbolic"
	"slope/tape"
)

// plainLine is a line of a script: its bytes without the newline, and its words.
type plainLine struct {
	text  string
	words []string
}

// plainLines goes over a script byte by byte.
func plainLines(script string) []plainLine {
	var l []plainLine
	begin := 0
	for i := 0; i <= len(script); i++ {
		if i < len(script) && script[i] != 10 || i == len(script) && begin == i {
			continue
		}
		l = append(l, plainLine{text: script[begin:i]})
		begin = i + 1
	}
	for i := range l {
		word := ""
		for _, b := range []byte(l[i].text + " ") {
			if b != 32 && b != 9 && b != 13 {
				word += string([]byte{b})
			} else if word != "" {
				l[i].words = append(l[i].words, word)
				word = ""
			}
		}
	}
	return l
}

// plainShell is what a script has.
type plainShell struct {
	models    []api.Model // none or one
	tapes     []api.Tape  // none or one
	point     []api.Rat
	weights   []api.Rat
	direction []api.Rat
	way       int
	plan      api.Plan
}

// plainRun runs a script, line by line.
func plainRun(script string) (string, int, api.Errno) {
	if len(script) > 65536 {
		return "", 0, api.ErrText
	}
	p := plainShell{plan: api.Plan{Mode: 1, Route: 1, Order: 1, Workers: 1}}
	var out []string
	count := 0
	l := plainLines(script)
	for i := 0; i < len(l); i++ {
		words := l[i].words
		if len(words) == 0 || words[0][0] == '#' {
			continue
		}
		if count++; count > 1024 {
			return "", i + 1, api.ErrText
		}
		text := ""
		if words[0] == "model" || words[0] == "tape" {
			for i++; i < len(l) && !(len(l[i].words) == 1 && l[i].words[0] == "end"); i++ {
				text += l[i].text + "\n"
			}
		}
		out = append(out, "> "+strings.Join(words, " "))
		place, e := plainFault(&p, words)
		var told []string
		if e == api.OK {
			told, place, e = p.work(words, text)
		}
		if e != api.OK {
			told = []string{fmt.Sprintf("! %d %d", e, place)}
		}
		out = append(out, told...)
	}
	return strings.Join(append(out, ""), "\n"), 0, api.OK
}

// plainForms tells of each command what its arguments are, and on what it works: M a model, T a tape, - neither.
const plainForms = `
model - .                tape - .             record M .          tell T .
flat M .                 simplify M .         diff M name         gradient M whole
fix M name,number        trim T .             merge T .           clean T .
blend T .                text M .             eval M .            values T .
jacobian T .             hessian T .          patterns T .        colours T .
series T whole           rank T .             det T .             newton T whole
mode - mode              route - route        workers - whole     show ? show
point - numbers          weights - numbers    along - numbers     solve T numbers
way - way                order - order`

// plainForm is a command's row of plainForms.
func plainForm(word string) (works, arguments string, found bool) {
	f := strings.Fields(plainForms)
	for i := 0; i < len(f); i += 3 {
		if f[i] == word {
			return f[i+1], f[i+2], true
		}
	}
	return "", "", false
}

// plainFault is P18.3, but for what the calls answer.
func plainFault(p *plainShell, words []string) (int, api.Errno) {
	works, form, found := plainForm(words[0])
	if !found {
		return 0, api.ErrWord
	}
	arguments := words[1:]
	if plainCountFault(form, arguments) {
		return 0, api.ErrArg
	}
	for i, word := range arguments {
		if e := plainArgumentFault(form, i, word); e != api.OK {
			return i + 1, e
		}
	}
	if works == "?" {
		works = map[string]string{"model": "M", "tape": "T"}[arguments[0]]
	}
	if works == "M" && len(p.models) == 0 || works == "T" && len(p.tapes) == 0 {
		return 0, api.ErrEarly
	}
	if strings.HasPrefix(form, "name") && !slices.Contains(p.models[0].Inputs, arguments[0]) {
		return 1, api.ErrVariable
	}
	return 0, api.OK
}

// plainCountFault tells whether there are more or fewer arguments than a command has.
func plainCountFault(form string, arguments []string) bool {
	n := len(arguments)
	switch form {
	case ".":
		return n != 0
	case "numbers":
		return false
	case "name,number":
		return n != 2
	case "way":
		met := map[string]int{}
		for _, word := range arguments {
			met[word]++
		}
		return n > 3 || len(met) < n
	case "order":
		return n == 0 || n > 1 && strings.Contains(" natural largest smallest incidence ", " "+arguments[0]+" ")
	}
	return n != 1
}

// plainArgumentFault is what is wrong with argument i.
func plainArgumentFault(form string, i int, word string) api.Errno {
	among := func(words string, e api.Errno) api.Errno {
		if slices.Contains(strings.Fields(words), word) {
			return api.OK
		}
		return e
	}
	r, _, e := rational.Parse(word)
	_, whole := rational.Int(r)
	switch {
	case form == "way":
		return among("copy balance fold", api.ErrWay)
	case form == "mode":
		return among("columns rows dense", api.ErrMode)
	case form == "route":
		return among("star acyclic push dense", api.ErrRoute)
	case form == "show":
		return among("model tape", api.ErrArg)
	case form == "order" && i == 0:
		return among("natural largest smallest incidence script", api.ErrOrderKind)
	case strings.HasPrefix(form, "name") && i == 0:
		return api.OK
	case e != api.OK, (form == "order" || form == "whole") && !whole:
		return api.ErrArg
	}
	return api.OK
}

// work does a command that P18.3 lets through.
func (p *plainShell) work(words []string, text string) ([]string, int, api.Errno) {
	if l, done := p.set(words); done {
		return l, 0, api.OK
	}
	if l, place, e, done := p.make(words, text); done {
		return l, place, e
	}
	return p.tell(words)
}

// set does what sets something.
func (p *plainShell) set(words []string) ([]string, bool) {
	switch words[0] {
	case "way":
		p.way = 0
		for i, word := range []string{"copy", "balance", "fold"} {
			if slices.Contains(words[1:], word) {
				p.way |= 1 << i
			}
		}
	case "mode":
		p.plan.Mode = api.Mode(1 + slices.Index([]string{"columns", "rows", "dense"}, words[1]))
	case "route":
		p.plan.Route = api.Route(1 + slices.Index([]string{"star", "acyclic", "push", "dense"}, words[1]))
	case "order":
		p.plan.Order = api.OrderKind(1 + slices.Index([]string{"natural", "largest", "smallest", "incidence", "script"}, words[1]))
		p.plan.Script = nil
		for _, word := range words[2:] {
			p.plan.Script = append(p.plan.Script, plainWhole(word))
		}
	case "workers":
		p.plan.Workers = plainWhole(words[1])
	case "point":
		p.point = plainNumbers(words[1:])
	case "weights":
		p.weights = plainNumbers(words[1:])
	case "along":
		p.direction = plainNumbers(words[1:])
	default:
		return nil, false
	}
	return nil, true
}

// make does what makes a model or a tape.
func (p *plainShell) make(words []string, text string) ([]string, int, api.Errno, bool) {
	var m api.Model
	var x api.Tape
	var place int
	var e api.Errno
	input := func() int { return slices.Index(p.models[0].Inputs, words[1]) }
	switch words[0] {
	case "model":
		m, place, e = formula.Parse(text)
	case "tell":
		m, place, e = record.Tell(p.tapes[0])
	case "flat":
		m, place, e = record.Flat(p.models[0])
	case "simplify":
		m, place, e = symbolic.Simplify(p.models[0])
	case "diff":
		m, place, e = symbolic.Diff(p.models[0], input())
	case "gradient":
		m, place, e = symbolic.Gradient(p.models[0], plainWhole(words[1]))
	case "fix":
		m, place, e = symbolic.Fix(p.models[0], input(), plainNumbers(words[2:])[0])
	case "tape":
		x, place, e = tape.Parse(text)
	case "record":
		way, _ := record.WayOf(p.way)
		x, place, e = record.Record(p.models[0], way)
	case "trim":
		x, _, e = tape.Trim(p.tapes[0])
	case "merge":
		x, _, e = tape.Merge(p.tapes[0])
	case "clean":
		x, _, e = tape.Clean(p.tapes[0])
	case "blend":
		x, e = tape.Blend(p.tapes[0], p.weights)
	default:
		return nil, 0, 0, false
	}
	switch {
	case e != api.OK:
		return nil, place, e, true
	case strings.Contains(" model tell flat simplify diff gradient fix ", " "+words[0]+" "):
		p.models = []api.Model{m}
		return []string{fmt.Sprintf("model %d %d %d %d %d", len(m.Inputs), len(m.Funcs), len(m.Lets), len(m.Outs), len(m.Nodes))}, 0, api.OK, true
	}
	p.tapes = []api.Tape{x}
	return []string{fmt.Sprintf("tape %d %d %d", x.Inputs, len(x.Ops), len(x.Outs))}, 0, api.OK, true
}

// tell does what tells something.
func (p *plainShell) tell(words []string) (l []string, place int, e api.Errno) {
	var m api.Matrix
	var rows [][]api.Rat
	sweeps, tail := -1, ""
	switch words[0] {
	case "show":
		return p.show(words[1])
	case "text":
		return symbolic.Text(p.models[0])
	case "eval":
		rows = make([][]api.Rat, 1)
		rows[0], place, e = record.Value(p.models[0], p.point)
	case "values":
		rows = make([][]api.Rat, 1)
		rows[0], place, e = engine.Values(p.tapes[0], p.point)
	case "jacobian":
		m, sweeps, place, e = engine.Jacobian(p.tapes[0], p.point, p.plan)
	case "hessian":
		m, sweeps, place, e = engine.Hessian(p.tapes[0], p.point, p.weights, p.plan)
	case "patterns":
		first, second, place, e := engine.Patterns(p.tapes[0])
		return append(plainPattern(first), plainPattern(second)...), place, e
	case "colours":
		return p.colours()
	case "series":
		rows, place, e = series.Expand(p.tapes[0], p.point, p.direction, plainWhole(words[1]))
	case "rank", "det", "solve":
		return p.system(words)
	case "newton":
		var w api.Walk
		w, place, e = solve.Newton(p.tapes[0], p.point, plainWhole(words[1]))
		rows, tail = w.Points, fmt.Sprintf("%d %d", w.End, w.Node)
	}
	if e != api.OK {
		return nil, place, e
	}
	for _, row := range rows {
		l = append(l, plainRow(row))
	}
	if tail != "" {
		l = append(l, tail)
	}
	if sweeps >= 0 {
		l = append(l, fmt.Sprintf("sweeps %d", sweeps))
		i := 0
		for _, at := range plainPattern(m.P)[1:] {
			l = append(l, at+" "+plainNumber(m.Vals[i]))
			i++
		}
	}
	return l, 0, api.OK
}

// show tells a model's or a tape's text.
func (p *plainShell) show(word string) ([]string, int, api.Errno) {
	var s string
	var e api.Errno
	if word == "model" {
		s, e = formula.Print(p.models[0])
	} else {
		s, e = tape.Print(p.tapes[0])
	}
	var l []string
	for _, line := range plainLines(s) {
		l = append(l, line.text)
	}
	return l, 0, e
}

// colours tells those of the Jacobian and of the Hessian.
func (p *plainShell) colours() ([]string, int, api.Errno) {
	a, n, e := engine.Colours(p.tapes[0], p.plan)
	if e != api.OK {
		return nil, 0, e
	}
	b, m, e := engine.HessianColours(p.tapes[0], p.plan)
	first, second := fmt.Sprint("colours ", n), fmt.Sprint("colours ", m)
	for _, c := range a {
		first += fmt.Sprint(" ", c)
	}
	for _, c := range b {
		second += fmt.Sprint(" ", c)
	}
	return []string{first, second}, 0, e
}

// system tells what the Jacobian's system comes to.
func (p *plainShell) system(words []string) ([]string, int, api.Errno) {
	m, _, place, e := engine.Jacobian(p.tapes[0], p.point, p.plan)
	if e != api.OK {
		return nil, place, e
	}
	switch words[0] {
	case "rank":
		l, e := solve.First(m)
		return []string{strings.Trim(fmt.Sprint(l), "[]")}, 0, e
	case "det":
		d, e := solve.Determinant(m)
		if e != api.OK {
			return nil, 0, e
		}
		return []string{plainNumber(d)}, 0, api.OK
	}
	x, _, e := solve.Solve(m, plainNumbers(words[1:]))
	switch e {
	case api.OK:
		return []string{plainRow(x)}, 0, e
	case api.ErrNone:
		return []string{"none"}, 0, api.OK
	}
	return nil, 0, e
}

// plainPattern is the lines P.
func plainPattern(p api.Pattern) []string {
	l := []string{fmt.Sprintf("pattern %d %d %d", p.Rows, p.Width, len(p.Cols))}
	for r := 0; r < p.Rows; r++ {
		for i := p.Start[r]; i < p.Start[r+1]; i++ {
			l = append(l, fmt.Sprintf("%d %d", r, p.Cols[i]))
		}
	}
	return l
}

// plainRow is the line N.
func plainRow(l []api.Rat) string {
	s := ""
	for i, r := range l {
		if i > 0 {
			s += " "
		}
		s += plainNumber(r)
	}
	return s
}

// plainNumber is a number as the library prints it.
func plainNumber(r api.Rat) string {
	nat := func(n api.Nat) *big.Int {
		z := new(big.Int)
		for i := len(n) - 1; i >= 0; i-- {
			z.Lsh(z, 32).Or(z, big.NewInt(int64(n[i])))
		}
		return z
	}
	z := new(big.Rat).SetFrac(nat(r.Num), nat(r.Den))
	if r.Neg {
		z.Neg(z)
	}
	return z.RatString()
}

func plainNumbers(words []string) []api.Rat {
	var l []api.Rat
	for _, word := range words {
		r, _, _ := rational.Parse(word)
		l = append(l, r)
	}
	return l
}

func plainWhole(word string) int {
	n, _ := rational.Int(plainNumbers([]string{word})[0])
	return n
}
