package shell

import (
	"slices"
	"strconv"
	"strings"

	"slope/api"
	"slope/rational"
)

// modelLine is the line M of the chapter.
func modelLine(m api.Model) string {
	return "model " + wholes(len(m.Inputs), len(m.Funcs), len(m.Lets), len(m.Outs), len(m.Nodes))
}

// tapeLine is the line T.
func tapeLine(t api.Tape) string {
	return "tape " + wholes(t.Inputs, len(t.Ops), len(t.Outs))
}

// coloursLine is the line C.
func coloursLine(n int, colours []int) string {
	return "colours " + wholes(slices.Concat([]int{n}, colours)...)
}

// patternLines are the lines P.
func patternLines(p api.Pattern) []string {
	l := []string{"pattern " + wholes(p.Rows, p.Width, len(p.Cols))}
	for i, row := range rowsOf(p) {
		l = append(l, wholes(row, p.Cols[i]))
	}
	return l
}

// matrixTold are the lines S and E of a matrix that a call answers with its sweeps.
func matrixTold(m api.Matrix, sweeps int, place int, e api.Errno) ([]string, error) {
	l := []string{"sweeps " + wholes(sweeps)}
	for i, row := range rowsOf(m.P) {
		l = append(l, wholes(row, m.P.Cols[i])+" "+digits(m.Vals[i]))
	}
	return linesTold(l, place, e)
}

// rowsOf is the row of each entry, in their order.
func rowsOf(p api.Pattern) []int {
	var l []int
	for row := range p.Rows {
		l = append(l, slices.Repeat([]int{row}, p.Start[row+1]-p.Start[row])...)
	}
	return l
}

// linesTold are lines made of what a call answers, unless it answers an error.
func linesTold(l []string, place int, e api.Errno) ([]string, error) {
	if e != api.OK {
		return nil, refusal{e, place}
	}
	return l, nil
}

// numbersTold is the line N of numbers that a call answers.
func numbersTold(l []api.Rat, place int, e api.Errno) ([]string, error) {
	return linesTold([]string{numbersLine(l)}, place, e)
}

// numberLines are the lines N of lists of numbers.
func numberLines(lists [][]api.Rat) []string {
	lines := make([]string, len(lists))
	for i, l := range lists {
		lines[i] = numbersLine(l)
	}
	return lines
}

// numbersLine is the line N.
func numbersLine(l []api.Rat) string {
	words := make([]string, len(l))
	for i, r := range l {
		words[i] = digits(r)
	}
	return strings.Join(words, " ")
}

// digits is a number's text. What the layers above answer may be, and so has one.
func digits(r api.Rat) string {
	s, _ := rational.Print(r)
	return s
}

// wholes are whole numbers with a blank between any two.
func wholes(l ...int) string {
	words := make([]string, len(l))
	for i, n := range l {
		words[i] = strconv.Itoa(n)
	}
	return strings.Join(words, " ")
}
