package script

import (
	"slices"
	"strconv"
	"strings"
	"sync"
	"testing"
)

// mixer draws numbers, the same ones each time.
type mixer uint64

// below tells a number from 0 on, below n.
func (m *mixer) below(n int) int {
	*m = *m*6364136223846793005 + 1442695040888963407
	return int(uint64(*m) >> 33 % uint64(n))
}

// between tells a number from low to high.
func (m *mixer) between(low, high int) int { return low + m.below(high-low+1) }

// once tells yes once in n times.
func (m *mixer) once(n int) bool { return m.below(n) == 0 }

// pick tells one of texts.
func (m *mixer) pick(l ...string) string { return l[m.below(len(l))] }

// text tells numbers behind a word, as a line.
func text(word string, l ...int) string {
	for _, n := range l {
		word += " " + strconv.Itoa(n)
	}
	return word
}

// fly tells a flight that begins on the beam, or anywhere.
func (m *mixer) fly() string {
	if m.once(3) {
		return text("fly", m.between(-1<<24+1, 1<<24-1), m.between(-900, 900), m.between(-9, 20000), m.between(-1<<24+1, 1<<24-1))
	}
	h := m.between(200, 20000)
	return text("fly", 20*h, m.between(-90, 90), h, m.between(-900, 900))
}

// fault tells a fault, seldom one that may not be.
func (m *mixer) fault() string {
	if m.once(40) {
		return text("fault", m.pickOf(6, 255, 256, 257, 1<<24-1), m.below(99), m.below(5), m.below(4), 0)
	}
	return text("fault", m.below(6), m.below(60), m.below(4), m.below(3), m.between(-3000, 3000))
}

// pickOf tells one of numbers.
func (m *mixer) pickOf(l ...int) int { return l[m.below(len(l))] }

// line tells a line of a script.
func (m *mixer) line() string {
	switch m.below(20) {
	case 0:
		return m.fault()
	case 1, 2:
		return m.fly()
	case 3, 4, 5:
		return text("crew", m.pickOf(0, 1, 1, 1, 2, 4, 8, 16, 17, m.below(1<<24)))
	case 6:
		return text("units", m.pickOf(15, 15, 15, 31, 14, 13, 7, 11, 0, m.below(1<<24)))
	case 7:
		return text("gust", m.between(-25, 25), m.between(-3, 3), m.between(-2, 2), m.between(-60, 60))
	case 8:
		return text("wrong", m.below(5), m.below(4), m.between(-600, 600))
	case 9:
		return m.pick("go 0", "go 5001", "lane 3", "#", "", "# a remark")
	case 10, 11:
		return "where"
	case 12, 13:
		return "cmd"
	case 14, 15:
		return text("lane", m.below(3))
	}
	return text("go", m.pickOf(1, 1, 2, 4, 4, 9, 40, 120))
}

// lines tells so many lines.
func (m *mixer) lines(n int) []string {
	var l []string
	for range n {
		l = append(l, m.line())
	}
	return l
}

// spoilt tells a line that is one of the rows but for a little, or by chance still is.
func (m *mixer) spoilt() string {
	b := []byte(m.line())
	at := m.below(len(b) + 1)
	switch m.below(4) {
	case 0:
		return string(b[:at]) + m.pick(" ", "-", "0", "1", "x", "\r", "#", "\xff") + string(b[at:])
	case 1:
		return string(b[:at])
	case 2:
		return string(b) + m.pick(" ", " 0", " where", "0000000", "9", "\t")
	}
	if at < len(b) {
		b = slices.Delete(b, at, at+1)
	}
	return string(b)
}

// wantByWords asks that what is told of a text is what the account tells.
func wantByWords(t *testing.T, text string) {
	t.Helper()
	out, line, ok := Run(text)
	wantOut, wantLine, wantOk := runByWords(text)
	if out != wantOut || line != wantLine || ok != wantOk {
		t.Errorf("Run(%q) =\n%s, %d, %t; want\n%s, %d, %t", text, out, line, ok, wantOut, wantLine, wantOk)
	}
}

// P30.1: scripts of all rows, against an own account of what they do.
func TestRunByWords(t *testing.T) {
	for part := range 8 {
		t.Run(strconv.Itoa(part), func(t *testing.T) {
			t.Parallel()
			for seed := range 12 {
				m := mixer(100*part + seed)
				lines := append([]string{m.fly(), "go 4", "crew 1", "go 2"}, m.lines(90)...)
				if m.once(2) {
					lines = append(m.lines(5), lines...)
				}
				wantByWords(t, strings.Join(lines, "\n")+m.pick("", "\n"))
			}
		})
	}
}

// P30.1: texts with a line that may be none of the rows.
func TestSpoiltByWords(t *testing.T) {
	none := 0
	for seed := range 4000 {
		m := mixer(seed)
		lines := []string{m.spoilt(), "where", m.spoilt()}
		wantByWords(t, strings.Join(lines[m.below(3):], "\n")+m.pick("", "\n"))
		if !isLineByWords(lines[0]) {
			none++
		}
	}
	if none < 1000 || none > 3800 {
		t.Errorf("%d lines are none", none)
	}
}

// scripts tells some that do much, and little.
func scripts() [][]string {
	all := [][]string{
		{"where"},
		{"", "", "# x", "cmd", ""},
		strings.Split(onBeam+"/go 4/crew 1/go 1/where/go 1/cmd/where/lane 2/go 5001/go 300/where/lane 0/lane 3", "/"),
		strings.Split("fault 5 9 0 0 0/fault 1 20 2 1 0/"+onBeam+"/go 4/crew 1/go 2/go 40/lane 0/lane 1/fault 7 0 0 0 0/cmd/fly 0 0 0 0/where", "/"),
		strings.Split(ready(atAlert)+"/go 300/where/crew 2/go 3/where/cmd/crew 4/go 3/cmd/go 90/where/gust 9 9 9 9/wrong 2 2 9/go 9/where", "/"),
	}
	for seed := range 8 {
		m := mixer(9000 + seed)
		all = append(all, append([]string{m.fly(), "go 4", "crew 1"}, m.lines(30)...))
	}
	return all
}

// P30.2: what is told of a text is the beginning of what is told of it with further lines.
func TestFurtherLines(t *testing.T) {
	for n, lines := range scripts() {
		t.Run(strconv.Itoa(n), func(t *testing.T) {
			t.Parallel()
			whole, _, ok := Run(strings.Join(lines, "\n"))
			if !ok || whole == "" {
				t.Fatalf("%q is no script", lines)
			}
			before := ""
			for cut := range len(lines) + 1 {
				text := strings.Join(lines[:cut], "\n")
				out, line, ok := Run(text)
				if line != 0 || !ok || !strings.HasPrefix(whole, out) || !strings.HasPrefix(out, before) {
					t.Fatalf("%q: %d, %t, %q of %q", text, line, ok, out, whole)
				}
				does := cut > 0 && lines[cut-1] != "" && lines[cut-1][0] != '#'
				if more := strings.Count(out, "\n") - strings.Count(before, "\n"); more != 0 && !does || more != 2 && does {
					t.Fatalf("%q: %d lines more", text, more)
				}
				before = out
				if again, _, _ := Run(text + "\n"); cut > 0 && again != out {
					t.Fatalf("%q with a byte 10 behind it: %q", text, again)
				}
			}
		})
	}
}

// P30.1: remarks and empty lines change nothing of what is told.
func TestRemarksBetween(t *testing.T) {
	for n, lines := range scripts() {
		t.Run(strconv.Itoa(n), func(t *testing.T) {
			t.Parallel()
			m := mixer(n)
			told, _, _ := Run(strings.Join(lines, "\n"))
			var more []string
			for _, line := range lines {
				for !m.once(3) {
					more = append(more, m.pick("", "#", "# go 1", "#\xff", "## fly 0 0 0 0"))
				}
				more = append(more, line)
			}
			wantScript(t, strings.Join(more, "\n"), told)
			wantScript(t, "\n"+strings.Join(lines, "\n\n")+"\n\n", told)
			wantScript(t, "#\n"+strings.Join(lines, "\n# where\n")+"\n#", told)
			// Of a text that is no script they change the number of the line.
			for _, ahead := range []int{0, 1, 7} {
				wantNone(t, strings.Repeat("# x\n", ahead)+strings.Join(lines, "\n")+"\n\n#\nwhat", ahead+len(lines)+2)
			}
		})
	}
}

// tale is what is told of a text.
type tale struct {
	out  string
	line int
	ok   bool
}

func tell(text string) tale {
	out, line, ok := Run(text)
	return tale{out, line, ok}
}

// texts tells texts that are scripts, and some that are none.
func texts() []string {
	var all []string
	for n, lines := range scripts() {
		all = append(all, strings.Join(lines, "\n"))
		if n%3 == 0 {
			all = append(all, strings.Join(lines, "\n")+"\nwhat\nwhere")
		}
	}
	return append(all, "", "\n", manyLines(1001, ""), "go 1 ", "fault 0 0 0 0")
}

// P30.1: the same text is told the same, forwards, backwards, and by several goroutines at once, whatever was asked in between.
func TestAskedAgain(t *testing.T) {
	all := texts()
	var first []tale
	for _, text := range all {
		first = append(first, tell(text))
	}
	for n := len(all) - 1; n >= 0; n-- {
		if got := tell(all[n]); got != first[n] {
			t.Errorf("%.100q: %v, at first %v", all[n], got, first[n])
		}
	}
	var wait sync.WaitGroup
	for worker := range 6 {
		wait.Add(1)
		go func() {
			defer wait.Done()
			for i := range all {
				n := (i*(worker+1) + worker) % len(all)
				if got := tell(all[n]); got != first[n] {
					t.Errorf("%.100q: %v, at first %v", all[n], got, first[n])
				}
			}
		}()
	}
	wait.Wait()
}

// P30.1: a text that is no script leaves nothing behind for the next one.
func TestNothingStays(t *testing.T) {
	const asked = "go 0\nwhere\ncmd\nlane 0"
	const told = "> go 0\nerror 12\n> where\nerror 12\n> cmd\nerror 12\n> lane 0\nerror 12\n"
	for _, ahead := range []string{onBeam + "\ngo 9", onBeam + "\ngo 9\nx", "fault 9 0 0 0 0\nunits 0\ncrew 8\ngust 9 9 9 9\nwrong 0 0 9"} {
		Run(ahead)
		wantScript(t, asked, told)
		wantScript(t, onBeam+"\ngo 4\nwhere", "> "+onBeam+"\nok\n> go 4\noff 2 - none\n> where\n398560 0 20000 0 up\n")
	}
}
