package script

import (
	"fmt"
	"strings"
	"testing"

	"flarepath/api"
)

// answersOf tells the answers of a script's lines, one for each that does something; it fails where the text is no script, or the lines are not told as they stand.
func answersOf(t *testing.T, lines ...string) []string {
	t.Helper()
	out, line, ok := Run(strings.Join(lines, "\n"))
	if line != 0 || !ok {
		t.Fatalf("%.300q: line %d, %t", lines, line, ok)
	}
	var answers []string
	for _, l := range lines {
		if l == "" || l[0] == '#' {
			continue
		}
		rest, is := strings.CutPrefix(out, "> "+l+"\n")
		if !is {
			t.Fatalf("%q is not told: %.300q", l, out)
		}
		var answer string
		answer, out, is = strings.Cut(rest, "\n")
		if !is {
			t.Fatalf("%q: an answer without an end: %q", l, rest)
		}
		answers = append(answers, answer)
	}
	if out != "" {
		t.Fatalf("%q: told behind the last answer: %q", lines, out)
	}
	return answers
}

// lastOf tells the answer of the last line.
func lastOf(t *testing.T, lines ...string) string {
	t.Helper()
	answers := answersOf(t, lines...)
	return answers[len(answers)-1]
}

// want asks for the answers of lines that are parted by strokes, as the chapter's examples are.
func want(t *testing.T, script, answers string) {
	t.Helper()
	if got := strings.Join(answersOf(t, strings.Split(script, "/")...), "/"); got != answers {
		t.Errorf("%.1000s:\n got %.1000s\nwant %.1000s", script, got, answers)
	}
}

// wantNone asks that a text is no script because of a line.
func wantNone(t *testing.T, text string, line int) {
	t.Helper()
	if out, n, ok := Run(text); out != "" || n != line || ok {
		t.Errorf("Run(%.200q) = %.200q, %d, %t; want nothing, %d, false", text, out, n, ok, line)
	}
}

// wantScript asks what is told of a text that is one.
func wantScript(t *testing.T, text, told string) {
	t.Helper()
	if out, n, ok := Run(text); out != told || n != 0 || !ok {
		t.Errorf("Run(%.200q) = %.200q, %d, %t; want %.200q", text, out, n, ok, told)
	}
}

// P30.1: the chapter's examples.
func TestExamples(t *testing.T) {
	want(t,
		"go 1/fly 400000 0 20000 0/go 4/crew 1/go 1/go 1/cmd/where/lane 2",
		"error 12/ok/off 2 - none/ok/armed 2 - none/approach 2 toga none/0 14 0/397840 0 19986 0 up/approach 2 3",
	)
}

// P30.1: the whole of what is told, byte for byte.
func TestTold(t *testing.T) {
	wantScript(t, "# a flight\n\nfly 400000 -3 20000 0\n\ngo 0\n#\nwhere\ncmd\nwrong 4 0 0",
		"> fly 400000 -3 20000 0\nok\n> go 0\noff 0 - none\n> where\n400000 -3 20000 0 up\n> cmd\nnone\n> wrong 4 0 0\nerror 2\n")
	wantScript(t, "lane 0\nlane 0\n", "> lane 0\nerror 12\n> lane 0\nerror 12\n")
}

// The numbers that the document gives, and that a script leans on.
func TestNumbers(t *testing.T) {
	for _, c := range []struct {
		what      string
		got, want int
	}{
		{"lines", mostLines, 1000},
		{"end of numbers", numbersEnd, 16777216},
		{"frames of a line", mostFrames, 5000},
		{"ErrArg", int(api.ErrArg), 2},
		{"ErrLimit", int(api.ErrLimit), 3},
		{"ErrState", int(api.ErrState), 12},
		{"digits", mostDigits, len(fmt.Sprint(numbersEnd - 1))},
		{"MaxFrames", api.MaxFrames, 1048576},
	} {
		if c.got != c.want {
			t.Errorf("%s: %d, want %d", c.what, c.got, c.want)
		}
	}
}

// Ten rows, each with a word of its own, and the signs that its numbers may have.
func TestRows(t *testing.T) {
	all := rows()
	if len(all) != len(goodLines()) {
		t.Errorf("%d rows, want %d", len(all), len(goodLines()))
	}
	for _, g := range goodLines() {
		if row, is := all[g.word]; !is || row.numbers != g.numbers || row.do == nil {
			t.Errorf("%s: %v %q", g.word, is, row.numbers)
		}
	}
}
