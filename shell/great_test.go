package shell_test

import (
	"fmt"
	"math/big"
	"strings"
	"testing"
)

// sheet is the matrix that jacobian or hessian puts out: of each place its number, 0 where it tells none.
func sheet(t *testing.T, told string, rows, columns int) [][]*big.Rat {
	t.Helper()
	z := make([][]*big.Rat, rows)
	for i := range z {
		for range columns {
			z[i] = append(z[i], new(big.Rat))
		}
	}
	for _, line := range strings.Split(told, "|")[1:] {
		var i, j int
		var number string
		if n, err := fmt.Sscanf(line, "%d %d %s", &i, &j, &number); n != 3 || err != nil {
			t.Fatalf("%q is no entry", line)
		}
		z[i][j] = read(t, number)[0]
	}
	return z
}

// read reads a line of numbers.
func read(t *testing.T, line string) []*big.Rat {
	t.Helper()
	var l []*big.Rat
	for _, word := range strings.Fields(line) {
		r, ok := new(big.Rat).SetString(word)
		if !ok || r.RatString() != word {
			t.Fatalf("%q is no number", word)
		}
		l = append(l, r)
	}
	return l
}

// withoutSweeps is what jacobian puts out but for its first line.
func withoutSweeps(told string) string {
	_, entries, _ := strings.Cut(told, "|")
	return entries
}

// DOC.md's great promises, told by transcripts alone: models at random at points that are no poles.
func TestGreatPromises(t *testing.T) {
	t.Parallel()
	points := 0
	for i := range 400 {
		d := dice(i)
		th := theme{1 + d.next(3), 1 + d.next(3)}
		model := d.modelPart(th)
		if openText(model) || strings.HasPrefix(last(t, model), "!") {
			continue
		}
		var point []string
		for range th.inputs {
			point = append(point, pick(&d, "0", "1", "2", "-3", "1/2", "-5/3"))
		}
		begin := model + "record\npoint " + strings.Join(point, " ") + "\n"
		values, jacobian := last(t, begin+"values"), last(t, begin+"jacobian")
		if strings.HasPrefix(values, "!") {
			// G5: the same outcome on all ways
			below(t, begin+"jacobian", values)
			below(t, begin+"rank", values)
			if eval := last(t, begin+"eval"); strings.HasPrefix(values, "! 9 ") != strings.HasPrefix(eval, "! 9 ") {
				t.Errorf("%q: values %s, eval %s", begin, values, eval)
			}
			continue
		}
		points++
		below(t, begin+"eval", values)
		wantSamePolicy(t, begin, values, jacobian)
		m := sheet(t, jacobian, th.outputs, th.inputs)
		wantDerivatives(t, begin, m)
		wantTexts(t, begin)
		wantSolution(t, begin, m)
	}
	if points < 100 {
		t.Errorf("%d points", points)
	}
}

// G6: neither the way of recording nor what is left out of a tape changes a value or an entry.
func wantSamePolicy(t *testing.T, begin, values, jacobian string) {
	t.Helper()
	for _, change := range []string{"way copy\nrecord", "way balance\nrecord", "way fold\nrecord", "way copy balance\nrecord", "way fold copy\nrecord", "way balance fold\nrecord", "way fold balance copy\nrecord", "trim", "merge", "clean", "tell\nrecord", "flat\nrecord"} {
		below(t, begin+change+"\nvalues", values)
		if got := last(t, begin+change+"\njacobian"); withoutSweeps(got) != withoutSweeps(jacobian) {
			t.Errorf("%q, %q: %s, want %s", begin, change, got, jacobian)
		}
	}
	below(t, begin+"simplify\neval", values)
}

// G1, G7: the Jacobian is told by series along each input, and by the derivative's formula.
func wantDerivatives(t *testing.T, begin string, m [][]*big.Rat) {
	t.Helper()
	for j := range m[0] {
		unit := strings.Fields(strings.Repeat("0 ", len(m[0])))
		unit[j] = "1"
		rows := strings.Split(last(t, begin+"along "+strings.Join(unit, " ")+"\nseries 1"), "|")
		name := []string{"x", "y", "z", "w"}[j]
		formula := read(t, last(t, begin+"diff "+name+"\neval"))
		recorded := read(t, last(t, begin+"diff "+name+"\nrecord\nvalues"))
		for i := range m {
			want := m[i][j]
			if c := read(t, rows[i]); c[1].Cmp(want) != 0 || formula[i].Cmp(want) != 0 || recorded[i].Cmp(want) != 0 {
				t.Errorf("%q: output %d by %s: %s, by series %s, by formula %s and %s", begin, i, name, want, c[1], formula[i], recorded[i])
			}
		}
	}
}

// G8: what is shown is read as the same.
func wantTexts(t *testing.T, begin string) {
	t.Helper()
	for _, what := range []string{"model", "tape"} {
		shown := last(t, begin+"show "+what)
		again := what + "\n" + strings.ReplaceAll(shown, "|", "\n") + "\nend\n"
		below(t, again+"show "+what, shown)
	}
}

// G9: what solve puts out solves the system of the Jacobian and the values.
func wantSolution(t *testing.T, begin string, m [][]*big.Rat) {
	t.Helper()
	b := read(t, last(t, begin+"values"))
	told := last(t, begin+"solve "+last(t, begin+"values"))
	if told == "none" {
		return
	}
	x := read(t, told)
	for i := range m {
		sum := new(big.Rat)
		for j := range m[i] {
			sum.Add(sum, new(big.Rat).Mul(m[i][j], x[j]))
		}
		if sum.Cmp(b[i]) != 0 {
			t.Errorf("%q: row %d of the solution %s is %s", begin, i, told, sum.RatString())
		}
	}
}
