package formula_test

import (
	"slices"
	"testing"

	"slope/api"
	"slope/formula"
)

// wantTidy fails if Tidy does not make that model of it.
func wantTidy(t *testing.T, m, want api.Model) {
	t.Helper()
	if got, e := formula.Tidy(m); e != api.OK || !same(got, want) {
		t.Errorf("Tidy(%s): %s, error %d, want %s", short(show(m)), short(show(got)), e, short(show(want)))
	}
}

// P4.4
func TestTidy(t *testing.T) {
	other := api.Model{
		Inputs: []string{"x"}, Outs: []int{4, 1}, Lets: []api.Let{{Name: "u", Body: 2}}, Funcs: []api.Func{{Name: "f", Params: []string{"a"}, Body: 5}},
		Nodes: []api.Expr{name("x"), name("u"), number("2"), number("-1/3"), op(api.ExprSub, 3, 0), name("a")},
	}
	wantTidy(t, other, api.Model{
		Inputs: []string{"x"}, Outs: []int{4, 5}, Lets: []api.Let{{Name: "u", Body: 1}}, Funcs: []api.Func{{Name: "f", Params: []string{"a"}, Body: 0}},
		Nodes: []api.Expr{name("a"), number("2"), number("-1/3"), name("x"), op(api.ExprSub, 2, 3), name("u")},
	})
	wantTidy(t, small(), small())
	wantTidy(t, api.Model{Nodes: []api.Expr{op(api.ExprProd)}, Outs: []int{0}}, api.Model{Nodes: []api.Expr{op(api.ExprProd)}, Outs: []int{0}})
}

// P4.4: models at random, their nodes numbered at random.
func TestTidyAtRandom(t *testing.T) {
	t.Parallel()
	d := dice(7)
	for range 1200 {
		s := d.sketch(1 + d.next(5))
		want := s.tidy()
		wantTidy(t, s.mixed(&d), want)
		wantTidy(t, want, want)
		if !formula.Alike(s.mixed(&d), s.mixed(&d)) {
			t.Errorf("not alike in two orders: %s", show(want))
		}
	}
}

// P4.4: the deepest trees.
func TestTidyDeep(t *testing.T) {
	m := chain(4095, op(api.ExprNeg))
	wantTidy(t, m, m)
	if !formula.Alike(m, m) || formula.Alike(m, chain(4094, op(api.ExprNeg))) {
		t.Error("Alike")
	}
}

// P4.4
func TestAlike(t *testing.T) {
	other := api.Model{Inputs: []string{"x"}, Nodes: []api.Expr{name("x"), number("2"), op(api.ExprSub, 1, 0)}, Outs: []int{2}}
	if !formula.Alike(other, must(t, "in x\nout 2 - x")) || !formula.Alike(must(t, "in x\nout 2 - x"), other) {
		t.Error("2 - x in two orders")
	}
	if formula.Alike(other, must(t, "in x\nout x - 2")) || formula.Alike(api.Model{}, api.Model{}) {
		t.Error("unlike ones")
	}
	for i, change := range []func(m *api.Model){
		func(m *api.Model) { m.Inputs[1] = "z"; m.Nodes[4].Name = "z" },
		func(m *api.Model) { m.Inputs = append(m.Inputs, "z") },
		func(m *api.Model) { m.Funcs[0].Name = "h"; m.Nodes[9].Name = "h" },
		func(m *api.Model) { m.Funcs[0].Params[0] = "b"; m.Nodes[0].Name = "b" },
		func(m *api.Model) { m.Funcs[0].Params = []string{"x", "a"} },
		func(m *api.Model) { m.Funcs[0], m.Funcs[1] = m.Funcs[1], m.Funcs[0] },
		func(m *api.Model) { m.Lets[1].Name = "w"; m.Nodes[8].Name = "w" },
		func(m *api.Model) { m.Outs[0], m.Outs[1] = m.Outs[1], m.Outs[0] },
		func(m *api.Model) { m.Nodes[2].Kids = []int{1, 0} },
		func(m *api.Model) { m.Nodes[2].Kind = api.ExprDiv },
		func(m *api.Model) { m.Nodes[3].Num = num("-3/2") },
		func(m *api.Model) { m.Nodes[3].Num = num("3") },
		func(m *api.Model) { m.Nodes[3].Num = num("5/2") },
		func(m *api.Model) { m.Nodes[11].N = 2 },
		func(m *api.Model) { m.Nodes[5].Kind = api.ExprProd },
		func(m *api.Model) { m.Nodes[7].Name = "y" },
	} {
		m := small()
		change(&m)
		if at, e := formula.Check(m); e != api.OK {
			t.Errorf("change %d: place %d, error %d", i, at, e)
		}
		if formula.Alike(m, small()) || formula.Alike(small(), m) || !formula.Alike(m, m) {
			t.Errorf("change %d: Alike", i)
		}
	}
	if formula.Alike(must(t, "let u = 1\nout 2"), must(t, "let v = 1\nout 2")) || formula.Alike(must(t, "let u = 1\nout 2"), must(t, "fn u() = 1\nout 2")) || formula.Alike(must(t, "let u = 1\nout 2"), must(t, "out 1, 2")) {
		t.Error("names that nobody uses")
	}
	if !formula.Alike(small(), small()) {
		t.Error("small and small")
	}
}

// P4.4, DOC.md's P3: nil and empty lists are the same.
func TestAlikeNilAndEmpty(t *testing.T) {
	a := api.Model{Nodes: []api.Expr{number("0")}, Outs: []int{0}}
	b := api.Model{Inputs: []string{}, Funcs: []api.Func{}, Lets: []api.Let{}, Outs: []int{0}, Nodes: []api.Expr{{Kind: api.ExprNumber, Num: api.Rat{Num: api.Nat{}, Den: api.Nat{1}}, Kids: []int{}}}}
	if !formula.Alike(a, b) || !formula.Alike(b, a) {
		t.Error("nil and empty lists are unlike")
	}
	wantTidy(t, b, a)
	wantPrint(t, b, "out 0\n")
}

// P4.6: Print of a model, read again, is its Tidy; models that are alike have the same text.
func TestThereAndBack(t *testing.T) {
	t.Parallel()
	d := dice(8)
	texts := map[string]string{}
	for range 1500 {
		s := d.sketch(1 + d.next(6))
		m := s.mixed(&d)
		text, e := formula.Print(m)
		again, f := formula.Print(s.mixed(&d))
		if e != f || text != again {
			t.Fatalf("two texts of models that are alike: %q, %q", short(text), short(again))
		}
		if e != api.OK {
			t.Fatalf("Print: error %d", e)
		}
		want := show(s.tidy())
		wantModel(t, text, s.tidy())
		if other, ok := texts[text]; ok && other != want {
			t.Errorf("models that are unlike have the text %q", text)
		}
		texts[text] = want
	}
}

// P4.6: what Parse answers may be, is its own Tidy, and is printed as a text that is read as the same.
func TestReadAndPrinted(t *testing.T) {
	t.Parallel()
	d := dice(9)
	count := 0
	for range 12000 {
		text := d.lines()
		m, _, e := formula.Parse(text)
		if e != api.OK {
			continue
		}
		count++
		wantCheck(t, text, m, 0, api.OK)
		wantTidy(t, m, m)
		s, e := formula.Print(m)
		if e != api.OK {
			t.Fatalf("Print of %q: error %d", text, e)
		}
		wantModel(t, s, m)
		wantPrint(t, m, s)
	}
	if count < 100 {
		t.Errorf("%d texts were read", count)
	}
}

// loose is a text of these tokens with blanks, comments and lines without a token between.
func loose(d *dice, tokens []string) string {
	text := pick(d, "", "\n", " # a\n\n")
	for i, s := range tokens {
		if s == "\n" {
			text += pick(d, "\n", "\r\n", " # in x $\n", "\n\n\t\n", "\n#\n")
			continue
		}
		text += pick(d, "", "", " ", "\t ", "\r")
		if i > 0 && runs(tokens[i-1], s) {
			text += pick(d, " ", "\t", "\r")
		}
		text += s
	}
	return text + pick(d, "", "#", "  ", "\n")
}

// runs tells whether two tokens would run into one, or into a fault.
func runs(a, b string) bool {
	return slices.Contains([]string{"x", "1"}, kindOf(a)) && slices.Contains([]string{"x", "1"}, kindOf(b)) || kindOf(a) == "[" && kindOf(b) == "x"
}

// kindOf is x of names and words, 1 of numbers, [ of bracketed ones.
func kindOf(s string) string {
	switch {
	case word.MatchString(s):
		return "x"
	case plain.MatchString(s):
		return "1"
	}
	return s[:1]
}

// P4.6: blanks and comments between tokens, and lines without a token, change nothing.
func TestBlanksChangeNothing(t *testing.T) {
	t.Parallel()
	d := dice(10)
	for range 1200 {
		s := d.sketch(1 + d.next(4))
		tokens, _, e := formula.Tokens(s.write())
		if e != api.OK {
			t.Fatalf("Tokens of %q: error %d", s.write(), e)
		}
		wantModel(t, loose(&d, tokens), s.tidy())
	}
}

// P4.6: and of a text that is refused only the place.
func TestBlanksChangeOnlyPlaces(t *testing.T) {
	t.Parallel()
	d := dice(11)
	for range 2500 {
		text := d.lines()
		if d.next(3) == 0 {
			text += pick(&d, " +", "\nin", " )", "\nlet u = ^", " q")
		}
		tokens, places, _, _ := plainTokens(text)
		more := loose(&d, tokens)
		_, morePlaces, _, _ := plainTokens(more)
		_, at, e := formula.Parse(text)
		_, moreAt, moreErr := formula.Parse(more)
		if e != moreErr || e != api.OK && slices.Index(places, at) != slices.Index(morePlaces, moreAt) {
			t.Errorf("%q: place %d, error %d; %q: place %d, error %d", text, at, e, more, moreAt, moreErr)
		}
	}
}
