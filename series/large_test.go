package series_test

import (
	"fmt"
	"testing"

	"slope/api"
	"slope/series"
	"slope/tape"
)

// heaviest is the greatest sum of a live node's weights.
func heaviest(x api.Tape, at, along []api.Rat) int {
	w, _ := tape.Weigh(x, at, along)
	most := 0
	for n, alive := range aliveIn(x) {
		if alive {
			most = max(most, w[n].Num+w[n].Den)
		}
	}
	return most
}

// wantLarge fails if Expand says anything but ErrLarge at this node.
func wantLarge(t *testing.T, what string, x api.Tape, at, along []api.Rat, degree, place int) {
	t.Helper()
	if l, p, e := series.Expand(x, at, along, degree); p != place || e != api.ErrLarge || len(l) > 0 {
		t.Errorf("%s: %d lists, place %d, error %d, want place %d, ErrLarge", what, len(l), p, e, place)
	}
}

// P8.1: an input weighs its point's bits and 5 over a whole direction of one bit: at each degree the last one that is answered, and the next.
func TestLargeInput(t *testing.T) {
	d := dice(5)
	x := must(t, "inputs 1; in 0; out 0")
	for degree := range 17 {
		bits := 65536/(degree+1) - 5
		at, along := []api.Rat{d.bits(bits, 1)}, nums("-1")
		if w := (degree + 1) * heaviest(x, at, along); w > 65536 || w+degree+1 <= 65536 {
			t.Fatalf("degree %d weighs %d", degree, w)
		}
		if f := wantPlain(t, x, at, along, degree); f.e != api.OK {
			t.Errorf("degree %d: %d bits are refused: %d", degree, bits, f.e)
		}
		wantLarge(t, fmt.Sprint("degree ", degree), x, []api.Rat{d.bits(bits+1, 1)}, along, degree, 0)
		// the same bits in the direction alone weigh as much
		if f := wantPlain(t, x, along, at, degree); f.e != api.OK {
			t.Errorf("degree %d: a direction of %d bits is refused: %d", degree, bits, f.e)
		}
		wantLarge(t, fmt.Sprint("along, degree ", degree), x, along, []api.Rat{d.bits(bits+1, 1)}, degree, 0)
		if degree < 16 {
			wantLarge(t, "one degree more", x, at, along, degree+1, 0)
		}
	}
}

// P8.1: a tape that is large at one degree and not at the degree below: it is where the weights say so, for all degrees.
func TestLargeDegree(t *testing.T) {
	x := must(t, "inputs 2; in 0; in 1; add 0 1; pow 2 20; neg 3; out 4; out 2")
	edges := map[int]int{}
	for n := 1; n < 900; n = n*5/4 + 1 {
		d := dice(n)
		at, along := []api.Rat{d.bits(n, 1), num("1")}, nums("1 1")
		edge := 65536/heaviest(x, at, along) - 1
		for degree := range 17 {
			l, place, e := series.Expand(x, at, along, degree)
			switch {
			case degree <= edge && (place != 0 || e != api.OK || len(l) != 2):
				t.Errorf("%d bits, degree %d of %d: %d, %d", n, degree, edge, place, e)
			case degree > edge && (place < 2 || e != api.ErrLarge || len(l) > 0):
				t.Errorf("%d bits, degree %d behind %d: %d, %d", n, degree, edge, place, e)
			}
		}
		edges[edge]++
	}
	if len(edges) < 8 {
		t.Errorf("only these edges: %v", edges)
	}
}

// P8.1, P8.2: the least live node that is large, ahead of poles; what is not live isn't looked at.
func TestLargeNodes(t *testing.T) {
	x := must(t, "inputs 2; const 0; in 0; in 1; pow 2 1000; div 1 0; mul 2 2; mul 5 5; out 6; out 4")
	d := dice(6)
	point := func(bits int) []api.Rat { return []api.Rat{num("3"), d.bits(bits, 1)} }
	along := nums("1 1")
	for _, c := range []struct {
		bits, degree, place int
		e                   api.Errno
	}{{2000, 0, 4, api.ErrPole}, {1000, 3, 4, api.ErrPole}, {17000, 0, 6, api.ErrLarge}, {5000, 3, 6, api.ErrLarge}, {10000, 3, 5, api.ErrLarge}, {40000, 0, 5, api.ErrLarge}, {65533, 0, 2, api.ErrLarge}, {4000, 16, 2, api.ErrLarge}} {
		if l, place, e := series.Expand(x, point(c.bits), along, c.degree); place != c.place || e != c.e || len(l) > 0 {
			t.Errorf("%d bits, degree %d: %d, %d, want %d, %d", c.bits, c.degree, place, e, c.place, c.e)
		}
	}
	x.Outs = []int{3, 6}
	wantLarge(t, "node 3", x, point(10), along, 16, 3)
	// What is not live, and what no live node is moved by, may weigh as much as it likes.
	x.Outs = []int{1, 0}
	at := []api.Rat{num("3"), d.bits(60000, 60001)}
	l, place, e := series.Expand(x, at, at, 16)
	wantRows(t, "not live", l, place, e, "3 3 0 0 0 0 0 0 0 0 0 0 0 0 0 0 0", "0 0 0 0 0 0 0 0 0 0 0 0 0 0 0 0 0")
	// Nodes whose weights stop at MaxWeight.
	text := "inputs 1; in 0; pow 0 1024; "
	for n := range 60 {
		text += fmt.Sprintf("mul %d %d; ", n+1, n+1)
	}
	x = must(t, text+"out 61")
	wantLarge(t, "squared sixty times", x, nums("1"), nums("0"), 16, 1)
	wantLarge(t, "squared sixty times", x, nums("1"), nums("0"), 0, 5)
	x = must(t, text+"out 0")
	l, place, e = series.Expand(x, nums("1"), nums("0"), 1)
	wantRows(t, "squared sixty times, not live", l, place, e, "1 0")
}

// P8.1: with a degree of at most 2 what tape.Large allows is answered; at higher ones it may be refused, and the other way round.
func TestLargeAndLayer5(t *testing.T) {
	t.Parallel()
	d := dice(7)
	near, refused, allowed := 0, 0, 0
	for near < 60 {
		x := d.tape(8)
		size := 20 + d.next(1500)
		var at, along []api.Rat
		for range x.Inputs {
			at = append(at, d.bits(1+d.next(size), 1+d.next(size)))
			along = append(along, d.bits(1+d.next(size), 1+d.next(size)))
		}
		if _, large, _ := tape.Large(x, at, along); large {
			if _, _, e := series.Expand(x, at, along, 0); e != api.ErrLarge {
				allowed++
			}
			continue
		}
		if heaviest(x, at, along) < 6000 {
			continue
		}
		near++
		for degree := range 3 {
			if f := wantPlain(t, x, at, along, degree); f.e == api.ErrLarge {
				t.Errorf("refused: %s", showTape(x))
			}
		}
		if _, _, e := series.Expand(x, at, along, 16); e == api.ErrLarge {
			refused++
		}
	}
	if refused < 10 || allowed < 5 {
		t.Errorf("refused at degree 16: %d; large and answered at degree 0: %d", refused, allowed)
	}
}

// P8.1, P8.2, DOC.md's P6: what is not large is answered to the last digit, up to the greatest weights, at each degree: tapes at numbers of many bits that grow until they are large.
func TestEdgeOfLarge(t *testing.T) {
	t.Parallel()
	d := dice(8)
	for _, text := range []string{
		"inputs 2; in 0; in 1; div 0 1; out 2",
		"inputs 2; in 0; in 1; div 0 1; div 1 0; add 2 3; out 4",
		"inputs 2; in 0; in 1; mul 0 1; sub 2 1; mul 3 3; out 4; out 2",
		"inputs 2; in 0; in 1; add 0 1; div 0 2; div 3 2; out 4",
		"inputs 2; in 0; in 1; div 0 1; div 1 2; div 2 3; out 4",
		"inputs 2; in 0; in 1; mul 0 1; pow 2 -3; out 3",
		"inputs 1; in 0; pow 0 -1; pow 1 -1; pow 2 2; out 3",
		"inputs 1; in 0; pow 0 7; out 1; out 0",
		"inputs 1; in 0; pow 0 -7; out 1; out 0",
		"inputs 1; in 0; const 1; add 0 1; pow 2 -5; neg 3; mul 4 0; out 5",
	} {
		x := must(t, text)
		for _, degree := range []int{0, 1, 2, 5, 11, 16} {
			bits, moved := 1, d.next(2) == 0
			var at, along []api.Rat
			grow := func(bits int) {
				at, along = nil, nil
				for range x.Inputs {
					at = append(at, d.bits(bits, max(1, bits-1)))
					along = append(along, d.bits(1+d.next(3), 1+d.next(3)))
					if moved {
						along[len(along)-1] = d.bits(bits, 1+d.next(bits))
					}
				}
			}
			for step := 16384; step > 0; step /= 2 {
				grow(bits + step)
				if lookFault(x, at, along, degree).e == api.OK {
					bits += step
				}
			}
			grow(bits)
			for lookFault(x, at, along, degree).e != api.OK {
				bits--
				grow(bits)
			}
			if w := (degree + 1) * heaviest(x, at, along); w < 45000 {
				t.Errorf("%s, degree %d: %d bits weigh %d", text, degree, bits, w)
			}
			if f := wantPlain(t, x, at, along, degree); f.e != api.OK {
				t.Errorf("%s, degree %d: error %d", text, degree, f.e)
			}
		}
	}
}
