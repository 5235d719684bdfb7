package script

import (
	"fmt"
	"math/big"
	"regexp"
	"strings"

	"flarepath/api"
	"flarepath/lanes"
	"flarepath/link"
	"flarepath/loop"
)

// formByWords is what a line must be, by the chapter's words; a number in brackets without a sign is N, with one Z.
var formByWords = regexp.MustCompile(`^(?:` + strings.NewReplacer(
	" N", " (0|[1-9][0-9]*)",
	" Z", " (0|-?[1-9][0-9]*)",
).Replace(`fault N N N N Z|fly Z Z Z Z|crew N|units N|gust Z Z Z Z|wrong N N Z|go N|where|cmd|lane N`) + `)$`)

// linesByWords are the lines of a text: what stands between bytes 10, and the last one, if it is not empty.
func linesByWords(text string) []string {
	lines := strings.Split(text, "\n")
	if last := len(lines) - 1; lines[last] == "" {
		lines = lines[:last]
	}
	return lines
}

// isLineByWords tells whether a line is empty, a remark, or one of the rows with numbers that may be.
func isLineByWords(line string) bool {
	if line == "" || strings.HasPrefix(line, "#") {
		return true
	}
	if !formByWords.MatchString(line) {
		return false
	}
	for _, word := range strings.Split(line, " ")[1:] {
		n, _ := new(big.Int).SetString(word, 10)
		if n.CmpAbs(big.NewInt(1<<24)) >= 0 {
			return false
		}
	}
	return true
}

// runByWords tells what is told of a text.
func runByWords(text string) (string, int, bool) {
	lines := linesByWords(text)
	for n, line := range lines {
		if n == 1000 || !isLineByWords(line) {
			return "", n, false
		}
	}
	out := ""
	account := account{units: 15}
	for _, line := range lines {
		if line != "" && line[0] != '#' {
			out += fmt.Sprintf("> %s\n%s\n", line, account.tell(line))
		}
	}
	return out, 0, true
}

// account is an own one of what lines do.
type account struct {
	faults []api.Fault
	gust   api.Gust
	crew   int64
	units  int64
	flight *loop.Flight
	outs   []api.Output
}

// tell does a line, and tells its answer.
func (a *account) tell(line string) string {
	var word string
	var n [5]int64
	fmt.Sscan(line, &word, &n[0], &n[1], &n[2], &n[3], &n[4])
	switch word {
	case "fault":
		if n[0] > 255 {
			n[0] = 255
		}
		a.faults = append(a.faults, api.Fault{Kind: uint8(n[0]), At: uint32(n[1]), Signal: int(n[2]), Source: int(n[3]), By: n[4]})
	case "fly":
		var errno api.Errno
		a.outs = nil
		if a.flight, errno = loop.New(api.Plane{X: n[0], Y: n[1], H: n[2], Turn: n[3]}, a.faults); errno != api.OK {
			return fmt.Sprint("error ", int(errno))
		}
	case "crew":
		a.crew = n[0] % 16
	case "units":
		a.units = n[0] % 16
	case "gust":
		a.gust = api.Gust{Along: n[0], Side: n[1], Up: n[2], Turn: n[3], Wrong: a.gust.Wrong}
	case "wrong":
		if n[0] > 3 || n[1] > 2 {
			return "error 2"
		}
		a.gust.Wrong[n[0]][n[1]] = n[2]
	default:
		return a.ask(word, n[0])
	}
	return "ok"
}

// ask tells the answer of the lines that need a flight.
func (a *account) ask(word string, n int64) string {
	switch {
	case word == "go" && n > 5000:
		return "error 3"
	case word == "lane" && n > 2:
		return "error 2"
	case a.flight == nil:
		return "error 12"
	case word == "where":
		return whereByWords(a.flight.Plane())
	case word == "lane":
		lane, _ := a.flight.Lane(int(n))
		return laneByWords(lane)
	case word == "go":
		for ; n > 0; n-- {
			out, errno := a.flight.Frame(a.gust, uint8(a.crew), uint8(a.units))
			if errno != api.OK {
				panic(errno)
			}
			a.crew = 0
			a.outs = append(a.outs, out)
		}
		return showByWords(a.last().Show[0])
	}
	return cmdByWords(a.last())
}

// last is what came of the last frame: nothing ahead of the first one.
func (a *account) last() api.Output {
	if len(a.outs) == 0 {
		return api.Output{}
	}
	return a.outs[len(a.outs)-1]
}

// modesByWords and warningsByWords are the texts as the chapters 21 and 22 list them.
var (
	modesByWords    = strings.Fields("off armed approach flare align rollout around")
	warningsByWords = strings.Fields("none off land wide level")
)

func showByWords(s api.Show) string {
	toga := map[bool]string{true: "toga", false: "-"}[s.Toga]
	return fmt.Sprintf("%s %d %s %s", modesByWords[s.Mode], s.Level, toga, warningsByWords[s.Warn])
}

func whereByWords(p api.Plane) string {
	end := "up"
	if p.Down {
		end = fmt.Sprintf("down %d", p.Sank)
	}
	return fmt.Sprintf("%d %d %d %d %s", p.X, p.Y, p.H, p.Turn, end)
}

func cmdByWords(out api.Output) string {
	if !out.Is {
		return "none"
	}
	return fmt.Sprintf("%d %d %d", out.Cmd.Side, out.Cmd.Sink, out.Cmd.Turn)
}

func laneByWords(l api.Lane) string {
	return fmt.Sprintf("%s %d %d", modesByWords[l.State.Mode], l.Cap.Level, lanes.Many(link.Alive(l.Links)))
}
