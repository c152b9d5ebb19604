package rational_test

import (
	"fmt"
	"math"
	"math/big"
	"slices"
	"strings"
	"testing"

	"slope/api"
	"slope/rational"
)

const mark = 0xa5a5a5a5

// roomyNat is a copy with marked room behind its end.
func roomyNat(n api.Nat) api.Nat {
	z := append(make(api.Nat, 0, len(n)+5), n...)
	for i := range 5 {
		z[:cap(z)][len(n)+i] = mark
	}
	return z
}

// roomy is a copy of a number whose lists have such room.
func roomy(r api.Rat) api.Rat {
	return api.Rat{Neg: r.Neg, Num: roomyNat(r.Num), Den: roomyNat(r.Den)}
}

// whole is a number with the room behind its lists' ends.
func whole(r api.Rat) api.Rat {
	return api.Rat{Neg: r.Neg, Num: slices.Clone(r.Num[:cap(r.Num)]), Den: slices.Clone(r.Den[:cap(r.Den)])}
}

// scrawl writes over a list and the room behind its end.
func scrawl(n api.Nat) {
	for i := range n[:cap(n)] {
		n[:cap(n)][i] ^= 0xffffffff
	}
}

// calls are all calls that answer numbers, of two numbers.
func calls() map[string]func(a, b api.Rat) []api.Rat {
	one := func(r api.Rat, _ api.Errno) []api.Rat { return []api.Rat{r} }
	m := map[string]func(a, b api.Rat) []api.Rat{}
	for _, c := range pairCalls() {
		m[c.name] = func(a, b api.Rat) []api.Rat { return one(c.call(a, b)) }
	}
	m["Between"] = func(a, b api.Rat) []api.Rat { return one(rational.Between(a, b)) }
	m["Divide"] = func(a, b api.Rat) []api.Rat { q, r, _ := rational.Divide(a, b); return []api.Rat{q, r} }
	m["Make"] = func(a, b api.Rat) []api.Rat { return one(rational.Make(a.Neg, a.Num, b.Den)) }
	m["Make of one list"] = func(a, b api.Rat) []api.Rat { return one(rational.Make(a.Neg, a.Num, a.Num)) }
	m["Sum of one"] = func(a, b api.Rat) []api.Rat { return one(rational.Sum(a)) }
	m["Sum"] = func(a, b api.Rat) []api.Rat { return one(rational.Sum(num("0"), a, b)) }
	m["Product of one"] = func(a, b api.Rat) []api.Rat { return one(rational.Product(a)) }
	m["Product"] = func(a, b api.Rat) []api.Rat { return one(rational.Product(a, num("1"), b)) }
	m["Dot"] = func(a, b api.Rat) []api.Rat { return one(rational.Dot([]api.Rat{a, b}, []api.Rat{b, a})) }
	m["FromTerms of one"] = func(a, b api.Rat) []api.Rat { return one(rational.FromTerms([]api.Rat{a})) }
	m["FromTerms"] = func(a, b api.Rat) []api.Rat { return one(rational.FromTerms([]api.Rat{a, b, a})) }
	for name, f := range map[string]func(api.Rat) (api.Rat, api.Errno){
		"Neg": rational.Neg, "Abs": rational.Abs, "Inv": rational.Inv, "Floor": rational.Floor, "Ceil": rational.Ceil, "Round": rational.Round,
	} {
		m[name] = func(a, b api.Rat) []api.Rat { return one(f(a)) }
	}
	for _, n := range []int{0, 1, -1, 2, -3, 1000, 2000} {
		m[fmt.Sprint("Pow ", n)] = func(a, b api.Rat) []api.Rat { return one(rational.Pow(a, n)) }
		m[fmt.Sprint("Near ", n)] = func(a, b api.Rat) []api.Rat { return one(rational.Near(a, n)) }
		m[fmt.Sprint("Terms ", n)] = func(a, b api.Rat) []api.Rat { l, _, _ := rational.Terms(a, n); return l }
	}
	return m
}

// handed are numbers among which the calls find their shortcuts, and some that may not be.
func handed() []api.Rat {
	d := dice(14)
	l := nums("0", "1", "-1", "2", "1/2", "-3/2", "7", "3/7", "4294967296", "1/4294967296")
	return append(l, d.rat(3, 3), d.rat(40, 1), d.rat(2, 50), wrong()[8], wrong()[13], wrong()[0])
}

// P2.12
func TestArgumentsStayAndAnswersAreNew(t *testing.T) {
	for name, call := range calls() {
		for _, x := range handed() {
			for _, y := range handed() {
				checkMemory(t, name, roomy(x), roomy(y), call)
			}
			a := roomy(x)
			checkMemory(t, name+" of one number twice", a, a, call)
		}
	}
}

// P2.12: numbers of the greatest size, whose pieces go through the wide numbers.
func TestLargeArgumentsStay(t *testing.T) {
	odd := wholeOf(less(two(65535), 1))
	l := []api.Rat{odd, over(top(), two(65535)), over(big.NewInt(1), two(65535)), negative(over(two(60000), less(two(33000), 1)))}
	for _, name := range []string{"Add", "Sub", "Mul", "Div", "Divide", "Between", "Near 1000", "Sum of one", "Round"} {
		for i, x := range l {
			checkMemory(t, name, roomy(x), roomy(l[(i+1)%len(l)]), calls()[name])
			checkMemory(t, name, roomy(x), roomy(x), calls()[name])
		}
	}
}

// checkMemory calls, scrawls over one answer's list after the other, and looks at what else has changed.
func checkMemory(t *testing.T, name string, a, b api.Rat, call func(a, b api.Rat) []api.Rat) {
	t.Helper()
	a0, b0 := whole(a), whole(b)
	l := call(a, b)
	var lists, kept []api.Nat
	for _, r := range l {
		lists = append(lists, r.Num, r.Den)
	}
	for _, n := range lists {
		kept = append(kept, slices.Clone(n))
	}
	for i := range lists {
		for j := i; j < len(lists); j++ {
			if !slices.Equal(lists[j], kept[j]) {
				t.Fatalf("%s: two lists of an answer share memory", name)
			}
		}
		scrawl(lists[i])
	}
	if !same(whole(a), a0) || !same(whole(b), b0) {
		t.Fatalf("%s: an argument was changed, or shares memory with an answer", name)
	}
	for i, r := range call(a, b) {
		if !slices.Equal(r.Num, kept[2*i]) || !slices.Equal(r.Den, kept[2*i+1]) {
			t.Fatalf("%s: another answer the second time", name)
		}
	}
}

// P2.12: lists of numbers, and the calls that answer no number.
func TestOtherArgumentsStay(t *testing.T) {
	list := func() []api.Rat {
		l := append(make([]api.Rat, 0, 5), roomy(num("3")), roomy(num("7")), roomy(num("2")))
		l[:5][3], l[:5][4] = num("9/5"), api.Rat{Num: api.Nat{0}}
		return l
	}
	print := func(l []api.Rat) string {
		s := ""
		for _, r := range l[:cap(l)] {
			s += fmt.Sprint(whole(r))
		}
		return s
	}
	l := list()
	rational.Sum(l...)
	rational.Product(l...)
	rational.Dot(l, l)
	rational.FromTerms(l)
	for _, r := range l {
		rational.May(r)
		rational.Int(r)
		rational.Sign(r)
		rational.Cmp(r, r)
		rational.Print(r)
		rational.Decimal(r, 3)
		rational.Float(r)
	}
	if print(l) != print(list()) {
		t.Error("an argument was changed")
	}
	for _, make := range []func() api.Rat{
		func() api.Rat { return rational.FromInt(-5) },
		func() api.Rat { return rational.FromInt(0) },
		func() api.Rat { r, _ := rational.FromFloat(0x3FF8000000000000); return r },
		func() api.Rat { r, _, _ := rational.Parse("1.5e-1"); return r },
		func() api.Rat { r, _ := rational.Sum(); return r },
		func() api.Rat { r, _ := rational.Product(); return r },
	} {
		r := make()
		before := number(value(r))
		scrawl(r.Num)
		scrawl(r.Den)
		if r = make(); !same(r, before) {
			t.Error("an answer is not new memory")
		}
	}
	terms, _, _ := rational.Terms(num("7/3"), 5)
	for i := range terms[:cap(terms)] {
		terms[:cap(terms)][i] = api.Rat{}
	}
	if terms, _, _ = rational.Terms(num("7/3"), 5); len(terms) != 2 || !same(terms[1], num("3")) {
		t.Error("Terms: its answer is not new memory")
	}
}

// P2.12: no call panics, whatever it is given.
func TestNoPanic(t *testing.T) {
	numbers := append(wrong(), nums("0", "1", "-1", "1/2", "-7/3")...)
	numbers = append(numbers, wholeOf(top()), over(big.NewInt(-1), two(65535)), api.Rat{Num: make(api.Nat, 100000), Den: make(api.Nat, 100000)})
	ints := []int{math.MinInt, math.MinInt + 1, -1025, -1024, -1, 0, 1, 2, 999, 1000, 1001, 1024, 1025, 1 << 40, 1<<40 + 1, math.MaxInt - 1, math.MaxInt}
	for _, r := range numbers {
		for _, n := range ints {
			rational.FromInt(n)
			rational.Pow(r, n)
			rational.Near(r, n)
			rational.Terms(r, n)
			rational.Decimal(r, n)
		}
		for _, s := range numbers {
			for _, call := range calls() {
				call(r, s)
			}
			rational.Cmp(r, s)
		}
		rational.May(r)
		rational.Int(r)
		rational.Sign(r)
		rational.Float(r)
		rational.Print(r)
	}
	rational.FromTerms(numbers)
	rational.Sum(numbers...)
	rational.Product(numbers...)
	rational.Dot(numbers, numbers[1:])
	for e := range uint64(4096) {
		rational.FromFloat(e << 52)
		rational.FromFloat(e<<52 | 1)
	}
	rational.Parse(strings.Repeat("-", 70000))
}
