package script

import (
	"fmt"
	"slices"
	"strings"
	"testing"
)

// goodLine is a row of the chapter's table: its word, its numbers, and a line of it.
type goodLine struct {
	word, numbers, line string
}

func goodLines() []goodLine {
	return []goodLine{
		{"fault", "NNNNZ", "fault 1 20 3 2 -500"},
		{"fly", "ZZZZ", "fly 400000 -10 20000 -90"},
		{"crew", "N", "crew 1"},
		{"units", "N", "units 15"},
		{"gust", "ZZZZ", "gust -20 2 1 -50"},
		{"wrong", "NNZ", "wrong 3 2 -30"},
		{"go", "N", "go 30"},
		{"where", "", "where"},
		{"cmd", "", "cmd"},
		{"lane", "N", "lane 2"},
	}
}

// wantNoLine asks that a line is none of the rows, wherever it stands.
func wantNoLine(t *testing.T, line string) {
	t.Helper()
	wantNone(t, line, 0)
	wantNone(t, line+"\n", 0)
	wantNone(t, line+"\nwhere\n", 0)
	wantNone(t, "where\n# x\n\n"+line, 3)
	wantNone(t, "where\n# x\n\n"+line+"\ncmd\n\n", 3)
}

// wantLine asks that a line is one of the rows: what is told of it begins with it.
func wantLine(t *testing.T, line string) {
	t.Helper()
	out, n, ok := Run(line)
	if !strings.HasPrefix(out, "> "+line+"\n") || n != 0 || !ok {
		t.Errorf("Run(%.100q) = %.100q, %d, %t", line, out, n, ok)
	}
}

// P30.1: a text without a byte, of one byte 10, of two; with and without one at its end.
func TestFewLines(t *testing.T) {
	wantScript(t, "", "")
	wantScript(t, "\n", "")
	wantScript(t, "\n\n", "")
	wantScript(t, "where", "> where\nerror 12\n")
	wantScript(t, "where\n", "> where\nerror 12\n")
	wantScript(t, "where\n\n", "> where\nerror 12\n")
	wantScript(t, "\nwhere", "> where\nerror 12\n")
	wantScript(t, "\n\nwhere\n\n\ncmd", "> where\nerror 12\n> cmd\nerror 12\n")
	wantNone(t, "x", 0)
	wantNone(t, "\nx", 1)
	wantNone(t, "\n\nx\n", 2)
	wantNone(t, "where\n\n#\nx", 3)
}

// manyLines are so many lines of one kind, each with its byte 10.
func manyLines(n int, line string) string {
	return strings.Repeat(line+"\n", n)
}

// P30.1: at most 1000 lines, whatever they are, and line 1000 is told if there are more.
func TestManyLines(t *testing.T) {
	for _, line := range []string{"", "#", "# go", "crew 0"} {
		told := strings.Repeat("> crew 0\nok\n", 1000)
		if line != "crew 0" {
			told = ""
		}
		wantScript(t, manyLines(1000, line), told)
		wantScript(t, strings.TrimSuffix(manyLines(999, line), "\n")+"\n"+line, strings.TrimSuffix(told, "> crew 0\nok\n")+lineTold(line))
		for _, more := range []string{"\n", "#", "#\n", "crew 0", "crew 0\n", "x", "x\n", "\n\n", "\nx", "crew 0\nx\n", "x\nx"} {
			wantNone(t, manyLines(1000, line)+more, 1000)
		}
		wantNone(t, manyLines(1001, line), 1000)
		wantNone(t, manyLines(1200, line)+"x", 1000)
		wantNone(t, manyLines(50000, line), 1000)
	}
}

// lineTold is what is told of a line "crew 0", and of those that do nothing.
func lineTold(line string) string {
	if line == "crew 0" {
		return "> crew 0\nok\n"
	}
	return ""
}

// P30.1: the first line that is none counts, ahead of line 1000 too.
func TestFirstLine(t *testing.T) {
	for _, at := range []int{0, 1, 2, 499, 998, 999, 1000, 1001, 1500} {
		for _, behind := range []int{0, 1, 2, 600, 1300} {
			for _, line := range []string{"", "# x", "crew 1"} {
				wantNone(t, manyLines(at, line)+"what\n"+manyLines(behind, line), min(at, 1000))
				wantNone(t, manyLines(at, line)+"what\n"+manyLines(behind, "what")+"where\n"+"what", min(at, 1000))
			}
		}
	}
	wantNone(t, "go x\ngo\nwhere 1", 0)
	wantNone(t, "where\ngo\nwhere 1", 1)
}

// P30.1: nothing is told of what stands ahead of such a line, nor behind it.
func TestNothingTold(t *testing.T) {
	wantNone(t, "fly 400000 0 20000 0\ngo 10\nwhere\ncmd\nlane 1\nwhere \nwhere", 5)
	wantNone(t, "go 5001\nwrong 4 0 0\nlane 3\nWHERE", 3)
}

// P30.1: each row's line, with a word too few and one too many.
func TestWords(t *testing.T) {
	for _, g := range goodLines() {
		wantLine(t, g.line)
		words := strings.Split(g.line, " ")
		for n := 1; n < len(words); n++ {
			wantNoLine(t, strings.Join(words[:n], " "))
		}
		for _, more := range []string{"0", "1", "-1", "x", g.word, "#", "# a remark"} {
			wantNoLine(t, g.line+" "+more)
			wantNoLine(t, g.line+" "+more+" "+more)
		}
		wantNoLine(t, strings.Join(slices.Insert(slices.Clone(words), 1, "x"), " "))
	}
}

// P30.1: one blank between words, none ahead of the first one and none behind the last one.
func TestBlanks(t *testing.T) {
	for _, line := range []string{" ", "  ", " #", " # x", "  where"} {
		wantNoLine(t, line)
	}
	for _, g := range goodLines() {
		wantNoLine(t, " "+g.line)
		wantNoLine(t, g.line+" ")
		wantNoLine(t, g.line+"  ")
		for i, b := range []byte(g.line) {
			if b == ' ' {
				wantNoLine(t, g.line[:i]+" "+g.line[i:])
				wantNoLine(t, g.line[:i]+g.line[i+1:])
			}
		}
	}
}

// P30.1: no other byte is a blank, nor counts for nothing.
func TestBytes(t *testing.T) {
	others := []string{"\t", "\r", "\v", "\f", "\x00", "\x7f", "\x80", "\xa0", "\xff", "\u00a0", "\u0085", "\u2028", "\ufeff", ",", "\\", "\"", "'", "#", ";", "_"}
	for _, g := range goodLines() {
		for i := range len(g.line) + 1 {
			for _, other := range others {
				if i > 0 || other != "#" { // A # ahead of it makes a remark of it.
					wantNone(t, g.line[:i]+other+g.line[i:], 0)
				}
				if i < len(g.line) && g.line[i] == ' ' {
					wantNone(t, g.line[:i]+other+g.line[i+1:], 0)
				}
			}
		}
	}
}

// P30.1: words of no row: capitals, parts, more behind them, others.
func TestOtherWords(t *testing.T) {
	for _, g := range goodLines() {
		rest := strings.TrimPrefix(g.line, g.word)
		wantNoLine(t, strings.ToUpper(g.word)+rest)
		wantNoLine(t, strings.ToUpper(g.word[:1])+g.word[1:]+rest)
		for n := range len(g.word) {
			wantNoLine(t, "x"+g.word[:n]+rest)
			if n > 0 {
				wantNoLine(t, g.word[:n]+rest)
				wantNoLine(t, g.word[n:]+rest)
			}
		}
		for _, more := range []string{"s", "0", "-", ".", ":", "=", g.word} {
			wantNoLine(t, g.word+more+rest)
		}
		for _, ahead := range []string{"-", "+", ">", "> ", "0", "/"} {
			wantNoLine(t, ahead+g.line)
		}
	}
	for _, line := range []string{"what", "1", "0", "-", "goto 1", "done", "ok", "error 2", "-- where", "// where", "does 1", "well 1", "frames 1", "land", strings.Repeat("go", 100000)} {
		wantNoLine(t, line)
	}
}

// P30.1: a remark may be of any bytes, a # elsewhere makes none.
func TestRemarks(t *testing.T) {
	remarks := []string{"#", "##", "# ", "#where", "# where", "#  two  blanks ", "# go x", "#\xff\x00\x80", "#\t\r", "# \u00e9\u2028", "#" + strings.Repeat("x", 100000), "#> go 1", "# 16777216 -0 01"}
	for _, r := range remarks {
		wantScript(t, r, "")
		wantScript(t, r+"\n", "")
		wantScript(t, r+"\nwhere\n"+r, "> where\nerror 12\n")
		wantScript(t, "where\n"+r+"\nwhere", "> where\nerror 12\n> where\nerror 12\n")
		wantNone(t, r+"\n"+r+"\nwhere\n x", 3)
		wantNoLine(t, " "+r)
		wantNoLine(t, "where"+r)
		wantNoLine(t, "where "+r)
		wantNoLine(t, "x"+r)
	}
	b := make([]byte, 0, 257)
	for n := range 256 {
		if n != '\n' {
			b = append(b, byte(n))
		}
	}
	wantScript(t, "#"+string(b), "")
}

// with tells a row's line with a word in the place of one of its numbers, each other one as in its good line.
func with(g goodLine, at int, word string) string {
	words := strings.Split(g.line, " ")
	words[at+1] = word
	return strings.Join(words, " ")
}

// P30.1: what is a number, in each place of each row.
func TestGoodNumbers(t *testing.T) {
	for _, g := range goodLines() {
		for at, kind := range g.numbers {
			for _, word := range []string{"0", "1", "2", "9", "10", "11", "19", "100", "909", "1000", "9999999", "10000000", "16777214", "16777215"} {
				wantLine(t, with(g, at, word))
				if word == "0" {
					continue
				}
				if below := with(g, at, "-"+word); kind == 'Z' {
					wantLine(t, below)
				} else {
					wantNoLine(t, below)
				}
			}
		}
	}
}

// P30.1: what is none, in each place of each row.
func TestNoNumbers(t *testing.T) {
	words := []string{
		"16777216", "16777217", "16777220", "16777225", "16777300", "17777215", "20000000", "26777215", "99999999", "100000000", "167772150", "1000000000",
		"2147483647", "2147483648", "4294967295", "4294967296", "4294967297", "9223372036854775807", "9223372036854775808", "18446744073709551615", "18446744073709551616", "18446744073709551617",
		"340282366920938463463374607431768211456", strings.Repeat("0", 5000), strings.Repeat("1", 5000), strings.Repeat("9", 100000), "1" + strings.Repeat("0", 5000), strings.Repeat("0", 5000) + "1",
		"00", "01", "000", "007", "010", "00000001", "016777215",
		"-", "--", "--1", "-+1", "+-1", "+", "+0", "+1", "1-", "1+", "- 1", "-1-", "1-1",
		"a", "1a", "a1", "x1", "0x1", "0b1", "0o7", "1e3", "1.0", ".", "1.", ".5", "1,000", "1_000", "1/2", "nil", "NaN", "inf", "ten",
		"/", ":", "1:", "1/", "0:", ";0", "\x001", "1\x00", "1\r", "1\t", "\xb2", "\u0661", "\u00b2", "\uff11", "1\u0300",
	}
	for _, g := range goodLines() {
		for at := range g.numbers {
			for _, word := range words {
				wantNoLine(t, with(g, at, word))
				wantNoLine(t, with(g, at, "-"+word))
			}
			wantNoLine(t, with(g, at, ""))
			wantNoLine(t, with(g, at, "-0"))
		}
	}
}

// P30.1: the number that is read is the one that stands there.
func TestNumbersAreRead(t *testing.T) {
	for _, n := range []int{0, 1, 9, 10, 12, 90, 123, 1234, 98765, 1000000, 1234567, 9999999, 10000000, 12345678, 16777214, 16777215} {
		for _, n := range []int{n, -n} {
			for at := range 4 {
				p := [4]int{}
				p[at] = n
				line := fmt.Sprintf("%d %d %d %d", p[0], p[1], p[2], p[3])
				if got := lastOf(t, "fly "+line, "where"); got != line+" up" {
					t.Errorf("fly %s: where = %s", line, got)
				}
			}
		}
	}
}
