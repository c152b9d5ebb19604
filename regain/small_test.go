package regain_test

import (
	"fmt"
	"testing"

	"slope/api"
)

// P13.2, P13.3, P13.6: all patterns of up to three rows and columns, and thin ones of four, with all colours below 3: sums of a matrix, and these with each place changed (of three by three for one in four).
func TestAllSmallPatterns(t *testing.T) {
	t.Parallel()
	sizes := [][2]int{{1, 4}, {4, 1}}
	for n := range 16 {
		sizes = append(sizes, [2]int{n / 4, n % 4})
	}
	for _, size := range sizes {
		for _, kind := range []api.ColourKind{api.ColourColumns, api.ColourRows} {
			t.Run(fmt.Sprint(size, " ", nameOf(kind)), func(t *testing.T) {
				t.Parallel()
				d := dice(3)
				good := 0
				allSheets(size[0], size[1], func(s sheet) {
					allColours(s.things(kind), 3, func(colours []int) {
						good += wantSmall(t, &d, kind, s, colours)
					})
				})
				if good == 0 {
					t.Error("no colours were of the kind")
				}
			})
		}
	}
}

// P13.4 to P13.6: all graphs of up to four vertices, without a diagonal and with one, and all colours below 4; of five one in twenty, colours below 3; sums of a matrix, and these with each place changed (from three vertices on for one in four).
func TestAllSmallGraphs(t *testing.T) {
	t.Parallel()
	for n := range 6 {
		for _, kind := range []api.ColourKind{api.ColourStar, api.ColourAcyclic} {
			t.Run(fmt.Sprint(n, " ", nameOf(kind)), func(t *testing.T) {
				t.Parallel()
				d := dice(4)
				good := 0
				d.allGraphs(n, func(s sheet) {
					most := 4
					if n == 5 {
						most = 3
						if d.next(20) > 0 {
							return
						}
					}
					allColours(n, most, func(colours []int) {
						good += wantSmall(t, &d, kind, s, colours)
					})
				})
				if good == 0 {
					t.Error("no colours were of the kind")
				}
			})
		}
	}
}

// wantSmall fails unless a kind's calls tell what the plain ones do; it answers 1, if the colours are of the kind.
func wantSmall(t *testing.T, d *dice, kind api.ColourKind, s sheet, colours []int) int {
	t.Helper()
	h := held{p: s.pattern(), m: d.matrix(kind, s), colours: colours}
	h.sums = wantPlain(t, callOf(sumName(kind)), h).rows
	a := wantPlain(t, callOf(nameOf(kind)), h)
	if a.e == api.ErrColouring {
		return 0
	}
	if a.e != api.OK || !sameMatrix(a.m, h.m) {
		t.Fatalf("%s of %s: %s", nameOf(kind), h.text(), a.text())
	}
	if s.rows*s.width > 8 && d.next(4) > 0 {
		return 1
	}
	for i := range h.sums {
		for c := range h.sums[i] {
			was := h.sums[i][c]
			h.sums[i][c] = d.other(was)
			wantPlain(t, callOf(nameOf(kind)), h)
			h.sums[i][c] = was
		}
	}
	return 1
}
