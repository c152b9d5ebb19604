package shell

import (
	"slices"
	"strings"

	"slope/api"
)

// command is a line of a script: its words, those behind the first by themselves, and the text of one that has a text.
type command struct {
	words     []string
	arguments []string
	text      string
}

// commandsOf are a script's commands, in their order.
func commandsOf(script string) ([]command, error) {
	if len(script) > api.MaxText {
		return nil, refusal{api.ErrText, 0}
	}
	var l []command
	lines := linesOf(script)
	for i := 0; i < len(lines); i++ {
		words := wordsOf(lines[i])
		if len(words) == 0 || strings.HasPrefix(words[0], "#") {
			continue
		}
		if len(l) == api.MaxLines {
			return nil, lineFault{i + 1, refusal{api.ErrText, 0}}
		}
		c := command{words: words, arguments: words[1:]}
		if hasText(words[0]) {
			n := textLines(lines[i+1:])
			c.text = textOf(lines[i+1 : i+1+n])
			i += n + 1 // the line that ends the text is no command either
		}
		l = append(l, c)
	}
	return l, nil
}

// linesOf are a text's pieces between newlines; an empty one behind the last newline is none.
func linesOf(text string) []string { return strings.Split(strings.TrimSuffix(text, "\n"), "\n") }

func wordsOf(line string) []string { return strings.FieldsFunc(line, isBlank) }

func isBlank(r rune) bool { return r == ' ' || r == '\t' || r == '\r' }

// hasText tells whether the lines behind a command's line are its text.
func hasText(word string) bool { return word == "model" || word == "tape" }

// textLines is how many of these lines are a text: all, if none ends it.
func textLines(lines []string) int {
	if n := slices.IndexFunc(lines, isEnd); n >= 0 {
		return n
	}
	return len(lines)
}

func isEnd(line string) bool { return slices.Equal(wordsOf(line), []string{"end"}) }

// textOf are lines, each with a newline behind it.
func textOf(lines []string) string {
	var z strings.Builder
	for _, line := range lines {
		z.WriteString(line)
		z.WriteByte('\n')
	}
	return z.String()
}
