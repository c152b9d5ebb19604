package series_test

import (
	"fmt"
	"math"
	"math/big"
	"slices"
	"testing"

	"slope/api"
	"slope/series"
)

// P8.6: the chapter's example 4, and small ones.
func TestReckonExamples(t *testing.T) {
	l, e := series.Compose(nums("1 1 1"), nums("0 2 1"))
	wantRow(t, "Compose", l, e, "1 2 5")
	l, e = series.Compose(nums("1/2 0 3 -1"), nums("0 1 0 2"))
	wantRow(t, "Compose", l, e, "1/2 0 3 -1")
	l, e = series.Compose(nums("5"), nums("0"))
	wantRow(t, "Compose of length 1", l, e, "5")
	if l, e := series.Compose(nums("1 1 1"), nums("1 0 0")); e != api.ErrArg || len(l) > 0 {
		t.Errorf("Compose: %s, %d", row(l), e)
	}
	l, e = series.Div(nums("1 0 0"), nums("1 -1 0"))
	wantRow(t, "Div", l, e, "1 1 1")
	l, e = series.Div(nums("0 0 0"), nums("-2/3 1 5"))
	wantRow(t, "Div of zeros", l, e, "0 0 0")
	l, e = series.Mul(nums("1 2"), nums("3 4"))
	wantRow(t, "Mul", l, e, "3 a")
	l, e = series.Mul(nums("0 1"), nums("0 1"))
	wantRow(t, "Mul, all of it cut", l, e, "0 0")
	l, e = series.Mul(nums("2/3"), nums("-3/4"))
	wantRow(t, "Mul of length 1", l, e, "-1/2")
	for _, c := range []struct {
		a    string
		n    int
		want string
	}{{"0 0 0", 0, "1 0 0"}, {"0", 0, "1"}, {"0 1 0", 0, "1 0 0"}, {"0 1 0", 1, "0 1 0"}, {"0 1 0", 2, "0 0 1"}, {"0 1 0", 1024, "0 0 0"}, {"0 0 0", 5, "0 0 0"}, {"1 1 0", -1, "1 -1 1"}, {"2 1", -2, "1/4 -1/4"}, {"-1 0 0", 1023, "-1 0 0"}, {"-1", -1024, "1"}, {"1/2 3", 1, "1/2 3"}} {
		l, e = series.Pow(nums(c.a), c.n)
		wantRow(t, fmt.Sprint("Pow ", c), l, e, c.want)
	}
	for _, c := range []struct{ a, s, want string }{{"1 2 3", "1/2", "b/4"}, {"1 2 3", "0", "1"}, {"-7/3", "1000", "-7/3"}, {"0 0 0 0", "5/3", "0"}, {"1 1 1 1", "-1", "0"}} {
		v, e := series.At(nums(c.a), num(c.s))
		wantRow(t, fmt.Sprint("At ", c), []api.Rat{v}, e, c.want)
	}
}

// job is a call of P8.6 with its arguments; n is of Pow alone, s of At.
type job struct {
	a, b []api.Rat
	n    int
	s    api.Rat
}

// reckoner is a call of P8.6: what it answers, its weight, whether it divides by 0, and what it is.
type reckoner struct {
	name   string
	lists  int // how many series it is given
	do     func(j job) ([]api.Rat, api.Errno)
	weight func(j job) int
	plain  func(j job) jet
	zero   func(j job) bool
}

// w is the chapter's W.
func w(l []api.Rat) int {
	z := 5
	for _, r := range l {
		z += bitsOf(r)
	}
	return z
}

// bitsOf is how many bits a number has.
func bitsOf(r api.Rat) int { return bigNat(r.Num).BitLen() + bigNat(r.Den).BitLen() }

// reckoners are the five calls.
func reckoners() []reckoner {
	all := func(l []api.Rat) jet { return jetOf(len(l), l...) }
	never := func(job) bool { return false }
	return []reckoner{
		{"Mul", 2, func(j job) ([]api.Rat, api.Errno) { return series.Mul(j.a, j.b) },
			func(j job) int { return w(j.a) + w(j.b) },
			func(j job) jet { return all(j.a).times(all(j.b)) }, never},
		{"Div", 2, func(j job) ([]api.Rat, api.Errno) { return series.Div(j.a, j.b) },
			func(j job) int { return 2 * len(j.a) * (w(j.a) + w(j.b)) },
			func(j job) jet { return all(j.a).over(all(j.b)) },
			func(j job) bool { return isZero(j.b[0]) }},
		{"Pow", 1, func(j job) ([]api.Rat, api.Errno) { return series.Pow(j.a, j.n) },
			func(j job) int { return max(j.n, 2*len(j.a)*-j.n) * w(j.a) },
			func(j job) jet { return all(j.a).power(j.n) },
			func(j job) bool { return j.n < 0 && isZero(j.a[0]) }},
		{"Compose", 2, func(j job) ([]api.Rat, api.Errno) { return series.Compose(j.a, j.b) },
			func(j job) int { return w(j.a) + (len(j.a)-1)*w(j.b) },
			func(j job) jet { return all(j.a).put(all(j.b)) }, never},
		{"At", 1, func(j job) ([]api.Rat, api.Errno) {
			v, e := series.At(j.a, j.s)
			if e != api.OK && row([]api.Rat{v}) == row([]api.Rat{{}}) {
				return nil, e
			}
			return []api.Rat{v}, e
		},
			func(j job) int { return w(j.a) + (len(j.a)-1)*bitsOf(j.s) },
			func(j job) jet { return all(j.a).put(jetOf(1, j.s)) }, never},
	}
}

// fault is the first of the chapter's errors.
func (r reckoner) fault(j job) api.Errno {
	lists := [][]api.Rat{j.a, j.b}[:r.lists]
	numbers := slices.Concat(lists...)
	if r.name == "At" {
		numbers = append(numbers, j.s)
	}
	for _, x := range numbers {
		if may(x) != nil {
			return api.ErrRat
		}
	}
	for _, l := range lists {
		if len(l) != len(j.a) || len(l) == 0 || len(l) > 17 {
			return api.ErrDegree
		}
	}
	switch {
	case r.name == "Pow" && (j.n < -1024 || j.n > 1024):
		return api.ErrPower
	case r.name == "Compose" && !isZero(j.b[0]):
		return api.ErrArg
	case r.weight(j) > 65536:
		return api.ErrLarge
	case r.zero(j):
		return api.ErrZero
	}
	return api.OK
}

// check fails if a call answers anything else than what it is, or its fault; it tells the fault.
func (r reckoner) check(t *testing.T, what string, j job) api.Errno {
	t.Helper()
	want, e := "", r.fault(j)
	if e == api.OK {
		want = r.plain(j).text()
	}
	if got, f := r.do(j); f != e || row(got) != want {
		t.Errorf("%s: %s: %s, %d, want %s, %d: of %s; %s; %d; %s", what, r.name, short(row(got)), f, short(want), e, short(row(j.a)), short(row(j.b)), j.n, short(show(j.s)))
	}
	return e
}

// number is one at random.
func (d *dice) number() api.Rat { return d.point(1)[0] }

// job is one at random; the series are of that length.
func (d *dice) job(length int) job {
	return job{d.point(length), d.point(length), pick(d, -1024, -5, -2, -1, 0, 1, 2, 3, 7, 1024, d.next(2049)-1024), d.number()}
}

// P8.6: each call over series at random, of all lengths.
func TestReckon(t *testing.T) {
	t.Parallel()
	d := dice(41)
	met := map[string]int{}
	for i := range 3000 {
		j := d.job(1 + i%17)
		if i%2 == 0 {
			j.b[0] = num("0")
		}
		for _, r := range reckoners() {
			met[fmt.Sprint(r.name, " error ", r.check(t, "at random", j))]++
		}
	}
	for _, what := range []string{"Mul error 0", "Div error 0", "Div error 3", "Pow error 0", "Pow error 3", "Pow error 8", "Compose error 0", "Compose error 1", "At error 0"} {
		if met[what] < 40 {
			t.Errorf("%s: %d times", what, met[what])
		}
	}
}

// P8.6: zeros throughout, of all lengths.
func TestZeros(t *testing.T) {
	for length := range 19 {
		zeros := jetOf(length).rats()
		for _, n := range []int{-1024, -1, 0, 1, 2, 1024} {
			for _, r := range reckoners() {
				r.check(t, "zeros", job{zeros, zeros, n, num("0")})
			}
		}
	}
}

// sized is a series of that length whose numbers have just so many bits in all; a wanted first number is taken as it is.
func (d *dice) sized(length, bits int, first ...api.Rat) []api.Rat {
	l := slices.Clone(first)
	for _, r := range first {
		bits -= bitsOf(r)
	}
	for len(l) < length {
		left := length - len(l) - 1
		most := bits - 2*left
		if left > 0 {
			most = 2 + d.next(max(1, min(most-1, 2*bits/(left+1))))
		}
		over := 1 + d.next(most-1)
		l = append(l, d.bits(over, most-over))
		bits -= most
	}
	return l
}

// edge checks two jobs: the weight of make(0) is just MaxSeries, or as near as a bit's step comes to it, and it is answered to the last digit; make(1) has one bit more and is refused.
func (r reckoner) edge(t *testing.T, step int, make func(more int) job) {
	t.Helper()
	j, next := make(0), make(1)
	if v := r.weight(j); v > 65536 || v <= 65536-step {
		t.Fatalf("%s weighs %d", r.name, v)
	}
	if v := r.weight(next); v <= 65536 || v > 65536+step {
		t.Fatalf("%s, one bit more, weighs %d", r.name, v)
	}
	if e := r.check(t, "at the edge", j); e != api.OK {
		t.Errorf("%s at the edge: %d", r.name, e)
	}
	if e := r.check(t, "above the edge", next); e != api.ErrLarge {
		t.Errorf("%s above the edge: %d", r.name, e)
	}
}

// P8.6, DOC.md's P6: Mul, Div and Pow at the edge of what is not large.
func TestEdgeOfProducts(t *testing.T) {
	t.Parallel()
	d := dice(42)
	calls := reckoners()
	mul, div, pow := calls[0], calls[1], calls[2]
	for _, length := range []int{1, 2, 3, 8, 16, 17} {
		other := d.sized(length, 200+d.next(20000))
		mul.edge(t, 1, func(more int) job {
			return job{a: d.sized(length, 65536-w(other)-5+more), b: other}
		})
		small := d.sized(length, 100+d.next(400))
		div.edge(t, 2*length, func(more int) job {
			return job{a: d.sized(length, 32768/length-w(small)-5+more), b: small}
		})
		div.edge(t, 2*length, func(more int) job {
			return job{a: small, b: d.sized(length, 32768/length-w(small)-5+more)}
		})
		for _, n := range []int{1, 2, 3, 10, 100} {
			pow.edge(t, n, func(more int) job { return job{a: d.sized(length, 65536/n-5+more), n: n} })
		}
		for _, n := range []int{-1, -2, -7, -20} {
			pow.edge(t, 2*length*-n, func(more int) job {
				return job{a: d.sized(length, 65536/(2*length*-n)-5+more), n: n}
			})
		}
	}
	// the greatest power of a small series, and power 0 of a heavy one
	pow.edge(t, 1024, func(more int) job { return job{a: d.sized(3, 59+more), n: 1024} })
	heavy := []api.Rat{d.bits(65536, 65535), d.bits(65536, 65535), num("0")}
	if e := pow.check(t, "power 0", job{a: heavy, n: 0}); e != api.OK {
		t.Errorf("power 0 of a heavy series: %d", e)
	}
	if e := pow.check(t, "power 1", job{a: heavy, n: 1}); e != api.ErrLarge {
		t.Errorf("power 1 of a heavy series: %d", e)
	}
}

// P8.6, DOC.md's P6: Compose and At at the edge of what is not large.
func TestEdgeOfPolynomials(t *testing.T) {
	t.Parallel()
	d := dice(46)
	compose, at := reckoners()[3], reckoners()[4]
	for _, length := range []int{1, 2, 3, 8, 16, 17} {
		inner := nums("0")
		if length > 1 {
			inner = d.sized(length, max(2*length, 3000/length), num("0"))
		}
		compose.edge(t, 1, func(more int) job {
			return job{a: d.sized(length, 65536-(length-1)*w(inner)-5+more), b: inner}
		})
		s := d.bits(1+d.next(3000), 1+d.next(900))
		at.edge(t, 1, func(more int) job {
			return job{a: d.sized(length, 65536-(length-1)*bitsOf(s)-5+more), s: s}
		})
	}
	// the inner series, and the number, as heavy as can be
	for _, length := range []int{2, 5, 17} {
		small := d.sized(length, 40+(65536-45)%(length-1))
		compose.edge(t, length-1, func(more int) job {
			return job{a: small, b: d.sized(length, (65536-w(small))/(length-1)-5+more, num("0"))}
		})
		at.edge(t, length-1, func(more int) job {
			bits := (65536-w(small))/(length-1) + more
			return job{a: small, s: d.bits(bits/2, bits-bits/2)}
		})
	}
}

// P8.6: errors in the chapter's order, with several at once.
func TestReckonFaults(t *testing.T) {
	d := dice(43)
	huge := d.bits(65536, 1)
	series := [][]api.Rat{nil, {}, nums("1"), nums("0"), nums("0 1"), nums("1 2"), nums("1 2 3"), {huge, huge}, {num("0"), huge}, nums("1 2 3 4 5 6 7 8 9 10 11 12 13 14 15 16 17"), nums("0 2 3 4 5 6 7 8 9 10 11 12 13 14 15 16 17"), nums("1 2 3 4 5 6 7 8 9 10 11 12 13 14 15 16 17 18"), nums("0 2 3 4 5 6 7 8 9 10 11 12 13 14 15 16 17 18"), {num("0"), {}}, {{}}, make([]api.Rat, 18), append(nums("1"), wrongNumbers()...)}
	for _, r := range wrongNumbers() {
		series = append(series, []api.Rat{r, num("1")})
	}
	powers := []int{math.MinInt, -1025, -1024, -1, 0, 1, 2, 1024, 1025, math.MaxInt}
	numbers := []api.Rat{num("0"), num("-2/3"), huge, {}, {Num: api.Nat{2}, Den: api.Nat{2}}}
	met := map[string]int{}
	for _, a := range series {
		for _, b := range series {
			for _, r := range reckoners() {
				if r.lists == 2 {
					met[fmt.Sprint(r.name, r.check(t, "faults", job{a: a, b: b}))]++
				}
			}
		}
		for _, n := range powers {
			met[fmt.Sprint("Pow", reckoners()[2].check(t, "faults", job{a: a, n: n}))]++
		}
		for _, s := range numbers {
			met[fmt.Sprint("At", reckoners()[4].check(t, "faults", job{a: a, s: s}))]++
		}
	}
	for name, errors := range map[string][]api.Errno{"Mul": {0, api.ErrRat, api.ErrDegree, api.ErrLarge}, "Div": {0, api.ErrRat, api.ErrDegree, api.ErrLarge, api.ErrZero}, "Pow": {0, api.ErrRat, api.ErrDegree, api.ErrPower, api.ErrLarge, api.ErrZero}, "Compose": {0, api.ErrRat, api.ErrDegree, api.ErrArg, api.ErrLarge}, "At": {0, api.ErrRat, api.ErrDegree, api.ErrLarge}} {
		for _, e := range errors {
			if met[fmt.Sprint(name, e)] < 2 {
				t.Errorf("%s: error %d was met %d times", name, e, met[fmt.Sprint(name, e)])
			}
		}
	}
}

// P8.6: what the calls say of each other, where nothing is refused.
func TestReckonLaws(t *testing.T) {
	t.Parallel()
	d := dice(44)
	held := map[string]int{}
	for i := range 1500 {
		length := 1 + i%17
		a, b, c := d.point(length), d.point(length), d.point(length)
		c[0] = num("0")
		ok := true
		// of what is refused nothing is said
		sure := func(l []api.Rat, e api.Errno) []api.Rat {
			ok = ok && e == api.OK
			return l
		}
		same := func(law string, x, y []api.Rat) {
			t.Helper()
			if ok {
				held[law]++
				if row(x) != row(y) {
					t.Errorf("%s: %s, %s: of %s; %s; %s", law, row(x), row(y), row(a), row(b), row(c))
				}
			}
			ok = true
		}
		same("Div undoes Mul", sure(series.Div(sure(series.Mul(a, b)), b)), a)
		m, n := d.next(9)-4, d.next(9)-4
		same("powers are added", sure(series.Mul(sure(series.Pow(a, m)), sure(series.Pow(a, n)))), sure(series.Pow(a, m+n)))
		same("Compose goes over Mul", sure(series.Compose(sure(series.Mul(a, b)), c)), sure(series.Mul(sure(series.Compose(a, c)), sure(series.Compose(b, c)))))
		// the upper halves are 0, so the product is not cut
		s := d.number()
		for k := range length {
			if 2*k >= length {
				a[k], b[k] = num("0"), num("0")
			}
		}
		value := func(l []api.Rat) []api.Rat {
			if !ok {
				return nil
			}
			v, e := series.At(l, s)
			return sure([]api.Rat{v}, e)
		}
		same("At goes over Mul", value(sure(series.Mul(a, b))), jetOf(1, value(a)...).times(jetOf(1, value(b)...)).rats())
	}
	for _, law := range []string{"Div undoes Mul", "powers are added", "Compose goes over Mul", "At goes over Mul"} {
		if held[law] < 300 {
			t.Errorf("%s: held %d times", law, held[law])
		}
	}
}

// P8.4, P8.6: a tape's series are what the calls make of its operands' series.
func TestReckonedTapes(t *testing.T) {
	t.Parallel()
	d := dice(45)
	text := map[string]string{"mul": "mul 2 3", "div": "div 2 3", "pow": "pow 2 -3", "power": "pow 2 5"}
	for range 200 {
		at, along := d.point(2), d.point(2)
		for name, node := range text {
			x := must(t, "inputs 2; in 0; in 1; div 0 1; add 1 0; "+node+"; out 2; out 3; out 4")
			l, _, e := series.Expand(x, at, along, d.next(9))
			if e != api.OK {
				continue
			}
			want, f := map[string]func() ([]api.Rat, api.Errno){
				"mul":   func() ([]api.Rat, api.Errno) { return series.Mul(l[0], l[1]) },
				"div":   func() ([]api.Rat, api.Errno) { return series.Div(l[0], l[1]) },
				"pow":   func() ([]api.Rat, api.Errno) { return series.Pow(l[0], -3) },
				"power": func() ([]api.Rat, api.Errno) { return series.Pow(l[0], 5) },
			}[name]()
			if f != api.ErrLarge && (f != api.OK || row(want) != row(l[2])) {
				t.Errorf("%s: %s, %d, want %s", name, row(want), f, row(l[2]))
			}
		}
	}
}

// P8.6: a long way off: series of MaxOrder + 1 coefficients whose outcomes are known.
func TestReckonLong(t *testing.T) {
	ones := jetOf(17)
	for k := range ones {
		ones[k].SetInt64(1)
	}
	line := jetOf(17, nums("1 -1")...)
	l, e := series.Div(jetOf(17, num("1")).rats(), line.rats())
	wantRow(t, "1 / (1 - t)", l, e, ones.text())
	l, e = series.Mul(ones.rats(), line.rats())
	wantRow(t, "undone", l, e, jetOf(17, num("1")).text())
	for _, n := range []int{-1, -2, -3, 1, 2, 3, 16, 50, 1024} {
		l, e = series.Pow(jetOf(17, nums("1 1")...).rats(), n)
		wantRow(t, fmt.Sprint("(1 + t)^", n), l, e, row(binomials(n, 16)))
	}
	v, e := series.At(ones.rats(), num("1/2"))
	want := new(big.Rat).Sub(big.NewRat(2, 1), big.NewRat(1, 65536))
	wantRow(t, "At", []api.Rat{v}, e, number{want}.text())
	// t / (1 - t) put into t / (1 + t) is t
	inner, outer := slices.Clone(ones), slices.Clone(ones)
	inner[0], outer[0] = new(big.Rat), new(big.Rat)
	for k := 2; k < 17; k += 2 {
		outer[k] = big.NewRat(-1, 1)
	}
	l, e = series.Compose(outer.rats(), inner.rats())
	wantRow(t, "Compose", l, e, jetOf(17, nums("0 1")...).text())
}
