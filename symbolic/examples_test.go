package symbolic_test

import (
	"fmt"
	"strings"
	"testing"

	"slope/api"
	"slope/symbolic"
)

// simplify and its like are calls with the numbers that a test hands on.
var simplify = call{name: "Simplify"}

func diff(i int) call               { return call{name: "Diff", one: i} }
func gradient(i int) call           { return call{name: "Gradient", one: i} }
func second(i, j int) call          { return call{name: "Second", one: i, two: j} }
func fix(i int, c string) call      { return call{name: "Fix", one: i, c: num(c)} }
func repeat(s string, n int) string { return strings.TrimSuffix(strings.Repeat(s+", ", n), ", ") }

// The chapter's examples 1 and 2, P15.1: texts.
func TestExampleTexts(t *testing.T) {
	wantTexts(t, "in x, y\nout x * y + y * x - 2, (x + y) / (y + x)", "2*x*y+-2 1")
	wantTexts(t, "in x\nout x / x, x - x, 2 * (x + 1), (2 * x + 2) / (x + 1)", "1 0 2*x+2 1*(1*x+1)^-1*(2*x+2)")
}

// The chapter's examples 3 and 4, P15.2: derivatives, as texts and as a model.
func TestExampleDiff(t *testing.T) {
	text := "in x, y\nout x^3 * y, 1 / x, (x + y)^5"
	wantForms(t, text, diff(0), "3*x^2*y -1*x^-2 5*(1*x+1*y)^4")
	wantModel(t, text, diff(0), "in x, y\nout prod(x^2, y, 3), prod(x^-2, [-1]), prod(sum(x, y)^4, 5)\n")
	wantTexts(t, "in x\nout (x^2 + 1) * (x - 3)", "1*(1*x+-3)*(1*x^2+1)")
	wantForms(t, "in x\nout (x^2 + 1) * (x - 3)", diff(0), "2*(1*x+-3)*x+1*x^2+1")
}

// The chapter's example 5: what the limits refuse.
func TestExampleLimits(t *testing.T) {
	wantNoTexts(t, "in x\nout 1 / (x - x)", 0, api.ErrPole)
	wantNoTexts(t, "in x\nout x^1024 * x", 0, api.ErrPower)
	wantNoTexts(t, "in x\nout x^1000 * x^1000 * x^-1000", 0, api.ErrPower)
}

// The chapter's examples 6 and 7, P15.3 to P15.5.
func TestExampleSecondFixSame(t *testing.T) {
	text := "in x, y\nout x^2 * y"
	wantForms(t, text, second(0, 1), "2*x")
	wantForms(t, text, fix(0, "3"), "9*y")
	wantForms(t, text, gradient(0), "2*x*y 1*x^2")
	a, b, c := must(t, "in x\nout x + x"), must(t, "in x\nout 2 * x"), must(t, "in y\nout 2 * y")
	if !symbolic.Same(a, b) || symbolic.Same(a, c) || symbolic.Same(b, c) || !symbolic.Same(c, c) {
		t.Error("Same of the example's models")
	}
}

// P15.1: outputs that are a number, an input, a compound sum; no inputs; inputs that nobody names.
func TestOutputs(t *testing.T) {
	wantTexts(t, "out 7", "7")
	wantTexts(t, "out 1 - 1, [-6/4], 2 / 4, 0 * 5", "0 -3/2 1/2 0")
	wantTexts(t, "in x, y, z\nout y", "1*y")
	wantTexts(t, "in x, y, z\nout y + z, y + 1, 3", "1*y+1*z 1*y+1 3")
	wantModel(t, "out 7, 1 - 1", simplify, "out 7, 0\n")
	wantModel(t, "in x, y, z\nout y", simplify, "in x, y, z\nout y\n")
	wantModel(t, "in x, y, z\nout y + z, y + 1, 3, -y", simplify, "in x, y, z\nout sum(y, z), sum(y, 1), 3, prod(y, [-1])\n")
	wantModel(t, "in x\nout x - x, x^0", simplify, "in x\nout 0, 1\n")
}

// P15.1: each shape of a model's tree: factors, powers, coefficients behind, constants behind; 1 and 0 are left out.
func TestModels(t *testing.T) {
	for _, c := range []struct{ text, want string }{
		{"x * y", "prod(x, y)"},
		{"y * x * 2", "prod(x, y, 2)"},
		{"y * x * [-1/2]", "prod(x, y, [-1/2])"},
		{"x^3", "x^3"},
		{"x^-1", "x^-1"},
		{"x * 3", "prod(x, 3)"},
		{"x * 3 + 1", "sum(prod(x, 3), 1)"},
		{"x + 1", "sum(x, 1)"},
		{"x^2 + y + [1/2]", "sum(x^2, y, [1/2])"},
		{"(x + 1)^2", "sum(x, 1)^2"},
		{"(x + 1)^2 * 5", "prod(sum(x, 1)^2, 5)"},
		{"(x + 1) * y", "prod(sum(x, 1), y)"},
		{"((x + 1)^2 + y)^-3", "sum(sum(x, 1)^2, y)^-3"},
		{"(x + 1) * y + 4", "sum(prod(sum(x, 1), y), 4)"},
		{"(x + 1) * 4", "sum(prod(x, 4), 4)"},
	} {
		wantModel(t, "in x, y\nout "+c.text, simplify, "in x, y\nout "+c.want+"\n")
	}
}

// P15.1: sums and products of none, of one, of many.
func TestMany(t *testing.T) {
	wantTexts(t, "in x\nout sum(), prod(), sum(x), prod(x), sum(x + 1), prod(x + 1)", "0 1 1*x 1*x 1*x+1 1*x+1")
	wantTexts(t, "in x, y\nout sum(x, y, x, 3, y, -x, -4), prod(x, y, x, 3, y, 1 / x, 1 / 4)", "1*x+2*y+-1 3/4*x*y^2")
	wantTexts(t, "in x\nout sum("+repeat("x", 1000)+"), prod("+repeat("x", 1000)+"), sum("+repeat("x, 1, -x", 500)+")", "1000*x 1*x^1000 500")
	wantTexts(t, "in x\nout prod(x + 1, x + 1, 2), prod(2, x + 1, x + 1), prod(x + 1, 2, x + 1)", "2*(1*x+1)^2 1*(1*x+1)*(2*x+2) 1*(1*x+1)*(2*x+2)")
}

// P15.1: like terms that cancel, like factors whose powers add up to 0, all of them and some.
func TestCancel(t *testing.T) {
	wantTexts(t, "in x, y\nout x + y - x, x + y - (y + x), x + 1 - x, x * y - y * x + 2, x - 1 + 1", "1*y 0 1 2 1*x")
	wantTexts(t, "in x, y\nout x * y / x, x * y / (y * x), 2 * x^3 * x^-3, x^-2 * y * x^2 * y^-1", "1*y 1 2 1")
	wantTexts(t, "in x, y\nout (x + y)^2 * (x + y)^-2, x * (x + y) / (y + x), 3 * x * (x + y)^-1 * (x + y)", "1 1*x 3*x")
	wantTexts(t, "in x, y\nout sum(x, -x, x, y), sum(x, -x, x, -x, 0)", "1*x+1*y 0")
	wantTexts(t, "in x, y\nout (x + y) * x - x * (y + x), (x + y) * x + (x + y) * x", "0 2*(1*x+1*y)*x")
}

// P15.1: a compound sum with a coefficient, and a term whose one factor is a compound sum to the power 1, are sums themselves.
func TestCompounds(t *testing.T) {
	wantTexts(t, "in x\nout 3 * (x + 1), (x + 1) * 3, -(x - 1), (x + 1) / 2, 0 * (x + 1), 1 * (x + 1)", "3*x+3 3*x+3 -1*x+1 1/2*x+1/2 0 1*x+1")
	wantTexts(t, "in x\nout (x + 1)^2 / (x + 1), 5 * (x + 1)^3 * (x + 1)^-2, 1 / (1 / (x + 1)), (2 * (x + 1)^-1)^-1", "1*x+1 5*x+5 1*x+1 1/2*x+1/2")
	wantTexts(t, "in x, y\nout 7 * y * (x + 1) / y, (x + 1) * y, ((x + 1) * y)^2", "7*x+7 1*(1*x+1)*y 1*(1*x+1)^2*y^2")
	// What came to a sum with a coefficient within is another base than the sum without.
	wantTexts(t, "in x\nout (x + 1)^2 * 2 / (x + 1) * (x + 1), 2 * (x + 1) / (x + 1)", "1*(1*x+1)*(2*x+2) 1*(1*x+1)^-1*(2*x+2)")
	// A sum that is no compound: one term without a constant.
	wantTexts(t, "in x, y\nout (2 * x + 0)^3, (x + y - y)^2, (3 * x * y)^2", "8*x^3 1*x^2 9*x^2*y^2")
	wantTexts(t, "in x\nout ((x + 1)^2 + 1)^2, (1 / (x + 1) + 1)^-1", "1*(1*(1*x+1)^2+1)^2 1*(1*(1*x+1)^-1+1)^-1")
}

// P15.1: powers 0, 1, -1, MaxPower and -MaxPower of numbers, monomials and compound sums.
func TestPowers(t *testing.T) {
	wantTexts(t, "in x\nout 0^0, 0^1, 0^1024, 1^-1024, [-1]^1024, [-2/3]^-3, (x - x)^0", "1 0 0 1 1 -27/8 1")
	for _, n := range []string{"0", "1", "-1", "1024", "-1024", "2", "-1023"} {
		power, factor := "^"+n, func(s string) string { return "1*" + s + "^" + n }
		switch n {
		case "0":
			factor = func(string) string { return "1" }
		case "1":
			factor = func(s string) string { return strings.TrimSuffix(strings.TrimPrefix("1*"+s, "1*("), ")") }
		}
		wantTexts(t, fmt.Sprintf("in x, y\nout x%s, (x + y)%s, (x + 1)%s", power, power, power), factor("x")+" "+factor("(1*x+1*y)")+" "+factor("(1*x+1)"))
	}
	wantTexts(t, "in x\nout (2 * x)^-1, (-x)^3, (x / 2)^-2, (x^-2)^-3, (x^512)^2, (x^-512)^2, (x^1024)^-1, (x^-1024)^-1", "1/2*x^-1 -1*x^3 4*x^-2 1*x^6 1*x^1024 1*x^-1024 1*x^-1024 1*x^1024")
	wantTexts(t, "in x\nout x^1023 * x, x^-1023 / x, x^1024 / x^1024, ((x + 1)^32)^32, ((x + 1)^-32)^32", "1*x^1024 1*x^-1024 1 1*(1*x+1)^1024 1*(1*x+1)^-1024")
}

// P15.1, P6.3: shared lets, functions called with the same and with other kids; what no output comes to is not worked out.
func TestLetsAndCalls(t *testing.T) {
	wantTexts(t, "in x, y\nlet u = x + y\nlet v = u * u\nout v + u, u / v, v - u^2", "1*(1*x+1*y)^2+1*x+1*y 1*(1*x+1*y)^-1 0")
	wantTexts(t, "in x, y\nfn f(a, b) = a * b + a\nout f(x, y), f(y, x), f(x, x), f(2, x), f(x, f(x, y))", "1*x+1*x*y 1*x*y+1*y 1*x+1*x^2 2*x+2 1*(1*x+1*x*y)*x+1*x")
	wantTexts(t, "in x\nfn f(x) = x^2\nfn g(a) = f(f(a)) + a\nout g(x), g(3), g(x + 1)", "1*x+1*x^4 84 1*(1*x+1)^4+1*x+1")
	wantTexts(t, "in x\nfn f(a, b) = b\nlet u = x / 0\nout f(1 / 0, x), f(u, 2)", "1*x 2")
	wantNoTexts(t, "in x\nlet u = x / 0\nout x, x + 1, u", 2, api.ErrPole)
	wantNoTexts(t, "in x\nfn f(a, b) = b * a\nout x, f(1 / 0, x)", 1, api.ErrPole)
}

// P15.1: the orders of factors and of terms are those of their texts, byte by byte.
func TestOrders(t *testing.T) {
	// Names that are the beginnings of other names; capitals, _ and digits.
	wantTexts(t, "in b, ab, a, A, _a, a_, a1, aB, B\nout prod(b, ab, a, A, _a, a_, a1, aB, B)", "1*A*B*_a*a*a1*aB*a_*ab*b")
	wantTexts(t, "in b, ab, a, A, _a, a_, a1, aB, B\nout sum(b, ab, a, A, _a, a_, a1, aB, B)", "1*A+1*B+1*_a+1*a+1*a1+1*aB+1*a_+1*ab+1*b")
	// * stands ahead of digits, digits ahead of ^, ^ ahead of small letters.
	wantTexts(t, "in x, xa, x1, y, _\nout x^2 + x + x * y + x1 + xa + x^-3 + x^10 + x * _", "1*_*x+1*x+1*x*y+1*x1+1*x^-3+1*x^10+1*x^2+1*xa")
	// The coefficient says nothing: 10*a stands ahead of 2*b.
	wantTexts(t, "in a, b\nout 2 * b + 10 * a - 3 * a^2 - 7", "10*a+-3*a^2+2*b+-7")
	// Sums stand ahead of names, one that is the beginning of another one ahead of it.
	wantTexts(t, "in A, x\nout A * (x + 1) * (x + 10) * (x + 1 / 2) * (x - 1) * (x + 1 + x^2) * (2 * x + 1) * (x - x^2)", "1*(1*x+-1)*(1*x+-1*x^2)*(1*x+1)*(1*x+1*x^2+1)*(1*x+1/2)*(1*x+10)*(2*x+1)*A")
	wantTexts(t, "in x\nout (x + 1)^2 + (x + 1)^-2 + (x + 1)^10 + (x + 1) * x + (x + 1) + (x + 1)^2 * x", "1*(1*x+1)*x+1*(1*x+1)^-2+1*(1*x+1)^10+1*(1*x+1)^2+1*(1*x+1)^2*x+1*x+1")
}

// P15.2: derivatives of numbers, names, terms of many factors, sums of sums; what is 0 by a factor and by a whole term.
func TestDerivatives(t *testing.T) {
	wantForms(t, "in x, y\nout 7, x, y, x * y, x^2 * y^3, 5 * x, -x, x + y + 1", diff(0), "0 1 0 1*y 2*x*y^3 5 -1 1")
	wantForms(t, "in x, y\nout 7, x, y, x * y, x^2 * y^3, 5 * x, -x, x + y + 1", diff(1), "0 0 1 1*x 3*x^2*y^2 0 0 1")
	// A factor that doesn't name the input gives nothing, a term of such neither.
	wantForms(t, "in x, y\nout x * (y + 1)^2 + y^3 + (y + 1) * y, (y + 1) * (y + 2)", diff(0), "1*(1*y+1)^2 0")
	// Powers that become 1 and 0: a sum is a sum again.
	wantForms(t, "in x, y\nout (x + y)^2, (x + y)^2 * y, 3 * (x + y) * y, 2 * (x + y)^-1, (3 * x + y)^2, (3 * x + y) * (x + y)", diff(0), "2*x+2*y 2*(1*x+1*y)*y 3*y -2*(1*x+1*y)^-2 18*x+6*y 6*x+4*y")
}

// P15.2: a base that names the input and has the derivative 0 all the same gives nothing.
func TestHiddenZero(t *testing.T) {
	zero := "(2 * x + 2) * y - 2 * ((x + 1) * y)"
	wantTexts(t, "in x, y\nout "+zero, "-2*(1*x+1)*y+1*(2*x+2)*y")
	wantForms(t, "in x, y\nout "+zero+", ("+zero+" + 1)^-1024, x * ("+zero+" + 1)^-1024", diff(0), "0 0 1*(-2*(1*x+1)*y+1*(2*x+2)*y+1)^-1024")
	// With one that is not 0 the power -1025 is met.
	m := must(t, "in x, y\nout x, ("+zero+" + x)^-1024")
	wantFault(t, "a power below -MaxPower", m, diff(0), 1, api.ErrPower)
}

// P15.3: Second by the same input twice and by two in both orders; Gradient of each output.
func TestSeconds(t *testing.T) {
	text := "in x, y\nout x^3 * y^2, x / y, (x + y)^4, x + y, (x * y + 1)^2"
	wantForms(t, text, second(0, 0), "6*x*y^2 0 12*(1*x+1*y)^2 0 2*y^2")
	wantForms(t, text, second(0, 1), "6*x^2*y -1*y^-2 12*(1*x+1*y)^2 0 4*x*y+2")
	wantForms(t, text, second(1, 0), "6*x^2*y -1*y^-2 12*(1*x+1*y)^2 0 4*x*y+2")
	wantForms(t, text, second(1, 1), "2*x^3 2*x*y^-3 12*(1*x+1*y)^2 0 2*x^2")
	wantForms(t, text, gradient(0), "3*x^2*y^2 2*x^3*y")
	wantForms(t, text, gradient(1), "1*y^-1 -1*x*y^-2")
	wantForms(t, text, gradient(3), "1 1")
	wantModel(t, text, gradient(1), "in x, y\nout y^-1, prod(x, y^-2, [-1])\n")
	// Each output's number is asked of the outputs, not of the inputs.
	wantForms(t, "in a, b, c\nout b", gradient(0), "0 1 0")
	wantForms(t, "in a\nout 1, 2, a^2", gradient(2), "2*a")
	// No other output is worked out.
	wantForms(t, "in x\nout 1 / 0, x^2, x^1024 * x", gradient(1), "2*x")
}

// P15.4: Fix with 0, with 1, with numbers that make a sum compound no more; the input stays among the inputs.
func TestFix(t *testing.T) {
	text := "in x, y\nout x * y + x, x + y, (x + y)^2, (x + 2 * y - 1)^-3, x^0 * y"
	wantForms(t, text, fix(0, "0"), "0 1*y 1*y^2 1*(2*y+-1)^-3 1*y")
	wantForms(t, text, fix(0, "1"), "1*y+1 1*y+1 1*(1*y+1)^2 1/8*y^-3 1*y")
	wantForms(t, text, fix(1, "-7/2"), "-5/2*x 1*x+-7/2 1*(1*x+-7/2)^2 1*(1*x+-8)^-3 -7/2")
	wantModel(t, text, fix(0, "1"), "in x, y\nout sum(y, 1), sum(y, 1), sum(y, 1)^2, prod(y^-3, [1/8]), y\n")
	wantForms(t, "in x\nfn f(x) = x^2\nlet u = x + 1\nout f(u), u * x, 5", fix(0, "-1/2"), "1/4 -1/4 5")
	m := must(t, "in x, y\nout x, y / x")
	wantFault(t, "a pole", m, call{name: "Fix", one: 0, c: num("0")}, 1, api.ErrPole)
	wantForms(t, "in x, y\nout x, y / x", fix(1, "0"), "1*x 0")
}

// P15.5: models are the same by texts and inputs alone, and models without texts are not even the same as themselves.
func TestSame(t *testing.T) {
	for _, c := range []struct {
		a, b string
		want bool
	}{
		{"in x\nout x * x", "in x\nfn f(a) = a^2\nout f(x)", true},
		{"in x, y\nout x + y", "in x, y\nout y + x", true},
		{"in x, y\nout x + y", "in y, x\nout x + y", false},
		{"in x, y\nout x", "in x\nout x", false},
		{"in x\nout x, x", "in x\nout x", false},
		{"in x\nout x, 1", "in x\nout 1, x", false},
		{"in x\nout (x + 1) * (x - 1)", "in x\nout x^2 - 1", false},
		{"in x\nout 2 * (x + 1)", "in x\nout 2 * x + 2", true},
		{"out 1", "out 2 - 1", true},
		{"in x\nout x / x", "in x\nout 1", true},
		{"in x\nout 1 / (x - x)", "in x\nout 1 / (x - x)", false},
		{"in x\nout x^1024 * x", "in x\nout x^1024 * x", false},
		{"in x\nout 1", "in x\nout 1 / 0", false},
	} {
		if got := symbolic.Same(must(t, c.a), must(t, c.b)); got != c.want {
			t.Errorf("Same(%q, %q): %v", c.a, c.b, got)
		}
		if got := symbolic.Same(must(t, c.b), must(t, c.a)); got != c.want {
			t.Errorf("Same(%q, %q): %v", c.b, c.a, got)
		}
	}
	if symbolic.Same(api.Model{}, api.Model{}) || symbolic.Same(api.Model{}, must(t, "out 1")) || symbolic.Same(must(t, "out 1"), api.Model{}) {
		t.Error("Same of what is no model")
	}
}
