package series_test

import (
	"fmt"
	"math/big"
	"slices"
	"strings"
	"testing"

	"slope/api"
	"slope/series"
	"slope/tape"
)

// jet is a series worked out in the library's numbers, by the chapter's rules to the letter.
type jet []*big.Rat

// jetOf is numbers as a series of so many coefficients: zeros stand behind them, and what is beyond is left aside.
func jetOf(size int, l ...api.Rat) jet {
	z := make(jet, size)
	for k := range z {
		z[k] = new(big.Rat)
		if k < len(l) {
			z[k] = bigOf(l[k]).Rat
		}
	}
	return z
}

// text is a series as row shows it.
func (a jet) text() string {
	var z []string
	for _, c := range a {
		z = append(z, number{c}.text())
	}
	return strings.Join(z, " ")
}

// rats is a series in the program's numbers.
func (a jet) rats() []api.Rat {
	var z []api.Rat
	for _, c := range a {
		z = append(z, ratOf(c))
	}
	return z
}

func (a jet) plus(b jet, sign int64) jet {
	z := jetOf(len(a))
	for k := range z {
		z[k].Add(a[k], new(big.Rat).Mul(b[k], big.NewRat(sign, 1)))
	}
	return z
}

func (a jet) times(b jet) jet {
	z := jetOf(len(a))
	for k := range z {
		for i := range k + 1 {
			if a[i].Sign() != 0 && b[k-i].Sign() != 0 {
				z[k].Add(z[k], new(big.Rat).Mul(a[i], b[k-i]))
			}
		}
	}
	return z
}

// over is the quotient; b doesn't begin with 0.
func (a jet) over(b jet) jet {
	z := jetOf(len(a))
	for k := range z {
		z[k].Set(a[k])
		for i := 1; i <= k; i++ {
			if b[i].Sign() != 0 && z[k-i].Sign() != 0 {
				z[k].Sub(z[k], new(big.Rat).Mul(b[i], z[k-i]))
			}
		}
		z[k].Quo(z[k], b[0])
	}
	return z
}

// power is the product of n; below 0 it is 1 divided by that. Many are multiplied in two halves.
func (a jet) power(n int) jet {
	if n < 0 {
		return jetOf(len(a), num("1")).over(a.power(-n))
	}
	if n > 12 {
		half := a.power(n / 2)
		return half.times(half).times(a.power(n % 2))
	}
	z := jetOf(len(a), num("1"))
	for range n {
		z = z.times(a)
	}
	return z
}

// put is a(b(t)), cut to as many coefficients as b has.
func (a jet) put(b jet) jet {
	z := jetOf(len(b))
	for k := len(a) - 1; k >= 0; k-- {
		z = z.times(b)
		z[0].Add(z[0], a[k])
	}
	return z
}

// fault is an error and its place.
type fault struct {
	place int
	e     api.Errno
}

// aliveIn tells of each node of a tape that may be whether an output hangs on it.
func aliveIn(x api.Tape) []bool {
	l := make([]bool, len(x.Ops))
	var mark func(n int)
	mark = func(n int) {
		if !l[n] {
			l[n] = true
			for _, k := range operandsOf(x.Ops[n]) {
				mark(k)
			}
		}
	}
	for _, n := range x.Outs {
		mark(n)
	}
	return l
}

// lookFault is the first of the chapter's errors up to ErrLarge.
func lookFault(x api.Tape, at, along []api.Rat, degree int) fault {
	if place, e := tape.Check(x); e != api.OK {
		return fault{place, e}
	}
	if len(at) != x.Inputs || len(along) != x.Inputs {
		return fault{0, api.ErrPoint}
	}
	for _, l := range [][]api.Rat{at, along} {
		for i, r := range l {
			if may(r) != nil {
				return fault{i, api.ErrRat}
			}
		}
	}
	if degree < 0 || degree > 16 {
		return fault{0, api.ErrDegree}
	}
	w, _ := tape.Weigh(x, at, along)
	for n, alive := range aliveIn(x) {
		if alive && (degree+1)*(w[n].Num+w[n].Den) > 65536 {
			return fault{n, api.ErrLarge}
		}
	}
	return fault{}
}

// may is what is wrong with a number, nil if it may be.
func may(r api.Rat) error {
	for _, n := range []api.Nat{r.Num, r.Den} {
		if len(n) > 2048 || len(n) > 0 && n[len(n)-1] == 0 {
			return fmt.Errorf("a natural that may not be")
		}
	}
	a, b := bigNat(r.Num), bigNat(r.Den)
	if b.Sign() == 0 || new(big.Int).GCD(nil, nil, a, b).Cmp(big.NewInt(1)) != 0 || r.Neg && a.Sign() == 0 {
		return fmt.Errorf("no lowest terms")
	}
	return nil
}

// plain is what Expand is to answer, by the rules: the outputs' series or the fault.
func plain(x api.Tape, at, along []api.Rat, degree int) ([]jet, fault) {
	if f := lookFault(x, at, along, degree); f.e != api.OK {
		return nil, f
	}
	known := make([]jet, len(x.Ops))
	for n, alive := range aliveIn(x) {
		if !alive {
			continue
		}
		if known[n] = plainNode(x.Ops[n], known, at, along, degree+1); known[n] == nil {
			return nil, fault{n, api.ErrPole}
		}
	}
	var z []jet
	for _, n := range x.Outs {
		z = append(z, known[n])
	}
	return z, fault{}
}

// plainNode is one node's series, nil at a pole.
func plainNode(op api.Op, known []jet, at, along []api.Rat, size int) jet {
	var l []jet
	for _, n := range operandsOf(op) {
		l = append(l, known[n])
	}
	switch op.Kind {
	case api.OpInput:
		return jetOf(size, at[op.A], along[op.A])
	case api.OpConst:
		return jetOf(size, op.C)
	case api.OpAdd:
		return l[0].plus(l[1], 1)
	case api.OpSub:
		return l[0].plus(l[1], -1)
	case api.OpMul:
		return l[0].times(l[1])
	case api.OpNeg:
		return jetOf(size).plus(l[0], -1)
	case api.OpDiv:
		if l[1][0].Sign() == 0 {
			return nil
		}
		return l[0].over(l[1])
	}
	if op.N < 0 && l[0][0].Sign() == 0 {
		return nil
	}
	return l[0].power(op.N)
}

// wantPlain fails if Expand, or Along at degree 2, answers anything else than the rules; it tells the fault.
func wantPlain(t *testing.T, x api.Tape, at, along []api.Rat, degree int) fault {
	t.Helper()
	want, f := plain(x, at, along, degree)
	text := ""
	for _, z := range want {
		text += "(" + z.text() + ")"
	}
	got, place, e := series.Expand(x, at, along, degree)
	if rows(got) != text || place != f.place || e != f.e {
		t.Errorf("Expand, degree %d: %s, %d, %d, want %s, %d, %d: %s at %s along %s", degree, short(rows(got)), place, e, short(text), f.place, f.e, showTape(x), short(row(at)), short(row(along)))
	}
	if degree == 2 {
		wantAlong(t, x, at, along, want, f)
	}
	return f
}

// wantAlong fails if Along answers anything else than these series tell.
func wantAlong(t *testing.T, x api.Tape, at, along []api.Rat, want []jet, f fault) {
	t.Helper()
	lists := make([]jet, 3)
	for _, z := range want {
		twice := new(big.Rat).Add(z[2], z[2])
		lists[0], lists[1], lists[2] = append(lists[0], z[0]), append(lists[1], z[1]), append(lists[2], twice)
	}
	a, b, c, place, e := series.Along(x, at, along)
	if row(a) != lists[0].text() || row(b) != lists[1].text() || row(c) != lists[2].text() || place != f.place || e != f.e {
		t.Errorf("Along: %s; %s; %s; %d, %d, want %d, %d: %s", short(row(a)), short(row(b)), short(row(c)), place, e, f.place, f.e, showTape(x))
	}
}

// seen counts what random tapes have met.
type seen map[string]int

// look counts what a tape that is answered has.
func (s seen) look(x api.Tape, at []api.Rat) {
	alive, count := aliveIn(x), map[int]int{}
	for n, op := range x.Ops {
		if op.Kind == api.OpInput {
			count[op.A]++
		}
		if !alive[n] {
			s["not live"]++
			if op.Kind == api.OpPow && op.N < 0 || op.Kind == api.OpDiv {
				s["a quotient that is not live"]++
			}
			continue
		}
		s[fmt.Sprint("kind ", op.Kind)]++
		if k := operandsOf(op); len(k) == 2 && k[0] == k[1] {
			s[fmt.Sprint("twice of kind ", op.Kind)]++
		}
		if op.Kind == api.OpPow {
			s[fmt.Sprint("power ", op.N)]++
		}
	}
	for i := range x.Inputs {
		s[fmt.Sprint("an input at ", min(count[i], 2))]++
	}
	for i, n := range x.Outs {
		if slices.Contains(x.Outs[:i], n) {
			s["an output twice"]++
		}
		if k := x.Ops[n].Kind; k <= api.OpConst {
			s[fmt.Sprint("an output of kind ", k)]++
		}
	}
	if x.Inputs == 0 {
		s["no inputs"]++
	}
}

// P8.1 to P8.3, P8.5: over tapes at random, against the rules worked out in the library's numbers.
func TestPlain(t *testing.T) {
	t.Parallel()
	d := dice(1)
	s := seen{}
	for range 3000 {
		x := d.tape(12)
		at, along, degree := d.point(x.Inputs), d.point(x.Inputs), d.degree()
		f := wantPlain(t, x, at, along, degree)
		s[fmt.Sprint("error ", f.e)]++
		if f.e == api.OK {
			s.look(x, at)
			s[fmt.Sprint("degree ", degree)]++
		}
	}
	want := map[string]int{"error 0": 1500, "error 9": 150, "not live": 1000, "a quotient that is not live": 200, "no inputs": 100, "an output twice": 50, "an output of kind 1": 50, "an output of kind 2": 50}
	for k := range 8 {
		want[fmt.Sprint("kind ", k+1)] = 100
	}
	for k := api.OpAdd; k <= api.OpDiv; k++ {
		want[fmt.Sprint("twice of kind ", k)] = 20
	}
	for n := -3; n <= 4; n++ {
		want[fmt.Sprint("power ", n)] = 10
	}
	for n := range 3 {
		want[fmt.Sprint("an input at ", n)] = 100
	}
	for n := range api.MaxOrder + 1 {
		want[fmt.Sprint("degree ", n)] = 5
	}
	for what, n := range want {
		if s[what] < n {
			t.Errorf("%s: %d times, want %d", what, s[what], n)
		}
	}
}
