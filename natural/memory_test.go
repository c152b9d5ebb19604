package natural_test

import (
	"fmt"
	"math"
	"slices"
	"testing"

	"slope/api"
	"slope/natural"
)

const mark = 0xa5a5a5a5

// roomy is a copy with marked room behind its end.
func roomy(n api.Nat) api.Nat {
	z := make(api.Nat, len(n), len(n)+5)
	copy(z, n)
	for i := range 5 {
		z[:cap(z)][len(n)+i] = mark
	}
	return z
}

// whole is a list with the room behind its end.
func whole(n api.Nat) api.Nat { return n[:cap(n)] }

// scrawl writes over a list and the room behind its end.
func scrawl(n api.Nat) {
	for i := range whole(n) {
		whole(n)[i] ^= 0xffffffff
	}
}

// calls are all calls that answer naturals, of two naturals.
func calls() map[string]func(a, b api.Nat) []api.Nat {
	one := func(n api.Nat, _ api.Errno) []api.Nat { return []api.Nat{n} }
	m := map[string]func(a, b api.Nat) []api.Nat{}
	for _, c := range pairCalls() {
		m[c.name] = func(a, b api.Nat) []api.Nat { return one(c.call(a, b)) }
	}
	m["Diff"] = func(a, b api.Nat) []api.Nat { n, _, _ := natural.Diff(a, b); return []api.Nat{n} }
	m["DivMod"] = func(a, b api.Nat) []api.Nat { q, r, _ := natural.DivMod(a, b); return []api.Nat{q, r} }
	m["Sum of one"] = func(a, b api.Nat) []api.Nat { return one(natural.Sum(a)) }
	m["Sum"] = func(a, b api.Nat) []api.Nat { return one(natural.Sum(nil, a, b, nil)) }
	m["Product of one"] = func(a, b api.Nat) []api.Nat { return one(natural.Product(a)) }
	m["Product"] = func(a, b api.Nat) []api.Nat { return one(natural.Product(natural.From(1), a, b)) }
	for _, k := range []int{0, 1, 2, 32, 65, 1024, -1, 65536} {
		m[fmt.Sprint("Shl ", k)] = func(a, b api.Nat) []api.Nat { return one(natural.Shl(a, k)) }
		m[fmt.Sprint("Shr ", k)] = func(a, b api.Nat) []api.Nat { return one(natural.Shr(a, k)) }
		m[fmt.Sprint("Pow ", k)] = func(a, b api.Nat) []api.Nat { return one(natural.Pow(a, k)) }
		m[fmt.Sprint("Root ", k)] = func(a, b api.Nat) []api.Nat { n, _, _ := natural.Root(a, k); return []api.Nat{n} }
	}
	return m
}

// handed are naturals among which each pair of calls finds its shortcuts.
func handed() []api.Nat {
	d := dice(9)
	return []api.Nat{nil, {1}, {3}, {1<<32 - 1}, {0, 1}, ones(2), d.nat(5), d.nat(48), d.nat(100), two(1600), {0}, {1, 0}, append(ones(3), 0)}
}

// P1.15
func TestArgumentsStayAndAnswersAreNew(t *testing.T) {
	for name, call := range calls() {
		for _, x := range handed() {
			for _, y := range handed() {
				a, b := roomy(x), roomy(y)
				checkMemory(t, name, a, b, call)
			}
			a := roomy(x)
			checkMemory(t, name+" of one list twice", a, a, call)
		}
	}
}

// checkMemory calls, scrawls over one answer after the other, and looks at what else has changed.
func checkMemory(t *testing.T, name string, a, b api.Nat, call func(a, b api.Nat) []api.Nat) {
	t.Helper()
	a0, b0 := slices.Clone(whole(a)), slices.Clone(whole(b))
	l := call(a, b)
	kept := make([]api.Nat, len(l))
	for i := range l {
		kept[i] = slices.Clone(l[i])
	}
	for i := range l {
		for j := i; j < len(l); j++ {
			if !slices.Equal(l[j], kept[j]) {
				t.Fatalf("%s: two answers share memory", name)
			}
		}
		scrawl(l[i])
	}
	if !slices.Equal(whole(a), a0) || !slices.Equal(whole(b), b0) {
		t.Fatalf("%s: an argument was changed, or shares memory with an answer", name)
	}
	again := call(a, b)
	for i := range again {
		if !slices.Equal(again[i], kept[i]) {
			t.Fatalf("%s: another answer the second time", name)
		}
	}
}

// P1.15: the lists of lists, bytes and the calls that answer no list.
func TestOtherArgumentsStay(t *testing.T) {
	l := make([]api.Nat, 2, 4)
	l[0], l[1] = roomy(ones(3)), roomy(api.Nat{7})
	l[:4][2] = api.Nat{mark}
	before := fmt.Sprint(l[:4], whole(l[0]), whole(l[1]))
	natural.Sum(l...)
	natural.Product(l...)
	n := roomy(ones(3))
	natural.May(n)
	natural.Uint(n)
	natural.Cmp(n, n)
	natural.Bits(n)
	natural.Bit(n, 3)
	natural.Ones(n)
	natural.Tail(n)
	natural.Print(n, 10)
	natural.Bytes(n)
	if before != fmt.Sprint(l[:4], whole(l[0]), whole(l[1])) || !slices.Equal(whole(n), whole(roomy(ones(3)))) {
		t.Error("an argument was changed")
	}
	b := append(make([]byte, 0, 9), 0, 0, 1, 2, 3, 4, 5)
	copy(b[7:9], "xy")
	m, _ := natural.FromBytes(b)
	scrawl(m)
	if string(b[:9]) != "\x00\x00\x01\x02\x03\x04\x05xy" {
		t.Error("FromBytes: its argument was changed")
	}
	first, _ := natural.Bytes(n)
	for i := range first[:cap(first)] {
		first[:cap(first)][i] = 9
	}
	if second, _ := natural.Bytes(n); !slices.Equal(second, slices.Repeat([]byte{255}, 12)) || !slices.Equal(whole(n), whole(roomy(ones(3)))) {
		t.Error("Bytes: its answer is not new memory")
	}
	scrawl(natural.From(5))
	p, _, _ := natural.Parse("5", 10)
	scrawl(p)
	p, _, _ = natural.Parse("5", 10)
	if !slices.Equal(natural.From(5), api.Nat{5}) || !slices.Equal(p, api.Nat{5}) {
		t.Error("From, Parse: the answer is not new memory")
	}
}

// P1.15: no call panics, and each ends, whatever it is given.
func TestNoPanic(t *testing.T) {
	lists := append(append(edges(), wrong()...), make(api.Nat, 100000), slices.Repeat(api.Nat{7}, 100000))
	numbers := []int{math.MinInt, math.MinInt + 1, -65537, -1024, -1, 0, 1, 2, 10, 16, 36, 37, 1023, 1024, 1025, 2048, 65535, 65536, 65537, math.MaxInt - 1, math.MaxInt}
	for _, n := range lists {
		natural.Uint(n)
		natural.Bytes(n)
		for _, k := range numbers {
			natural.Bit(n, k)
			natural.Shl(n, k)
			natural.Shr(n, k)
			natural.Pow(n, k)
			natural.Root(n, k)
			natural.Print(n, k)
			natural.Parse("10", k)
		}
		for _, call := range pairCalls() {
			for _, m := range lists {
				call.call(n, m)
			}
		}
		for _, m := range lists {
			natural.DivMod(n, m)
			natural.Diff(n, m)
			natural.Sum(n, m, n)
			natural.Product(n, m, n)
		}
	}
	for c := range 256 {
		natural.Parse(string([]byte{byte(c)}), 36)
	}
}
