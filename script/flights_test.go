package script

import (
	"fmt"
	"slices"
	"strconv"
	"strings"
	"testing"
)

// landing tells a flight from Off until it has rolled on, asked in each frame, behind lines of its own.
func landing(ahead []string, fly string, frames int) []string {
	lines := append(slices.Clone(ahead), fly, "go 4", "crew 1")
	for range frames {
		lines = append(lines, "go 1")
	}
	return append(lines, "where")
}

// shows tells the answers of the lines "go 1", one for each.
func shows(lines, answers []string) []string {
	var l []string
	n := 0
	for _, line := range lines {
		if line == "" || line[0] == '#' {
			continue
		}
		if line == "go 1" {
			l = append(l, answers[n])
		}
		n++
	}
	return l
}

// modesOf tells the modes of what was shown, each once where it is the same for a while.
func modesOf(shows []string) string {
	var l []string
	for _, s := range shows {
		mode, _, _ := strings.Cut(s, " ")
		l = append(l, mode)
	}
	return strings.Join(slices.Compact(l), " ")
}

// The document's examples 1 and 2: the test, Armed, Approach.
func TestExampleArm(t *testing.T) {
	want(t, onBeam+"/go 1/go 1/go 1/go 1/lane 0/crew 1/go 1/go 1", "ok/off 0 - none/off 0 - none/off 0 - none/off 2 - none/off 2 3/ok/armed 2 - none/approach 2 toga none")
	// Not on the beam: Armed until it is. At 300 it is on it, at 301 not.
	want(t, "fly 400000 301 20000 0/go 4/crew 1/go 9", "ok/off 2 - none/ok/armed 2 - none")
	want(t, "fly 400000 300 20000 0/go 4/crew 1/go 1/go 1", "ok/off 2 - none/ok/armed 2 - none/approach 2 toga none")
	// At the alert height it is too late to arm.
	want(t, "fly 121920 0 6096 0/go 4/crew 1/go 1", "ok/off 2 - none/ok/off 2 - none")
	want(t, "fly 121940 0 6097 0/go 4/crew 1/go 1", "ok/off 2 - none/ok/armed 2 - none")
}

// Example 3: words of even parity, one by one; behind four of them the source is out, and the level falls.
func TestExampleParity(t *testing.T) {
	for _, kind := range []int{1, 2, 3} {
		for signal := range 4 {
			text := fmt.Sprintf("fault %d 8 %d 1 0/", kind, signal) + ready(onBeam)
			want(t, text+"/go 1/go 1/go 1/go 1/go 1/lane 0/go 30",
				"ok/"+readyTold+strings.Repeat("/approach 2 toga none", 4)+"/approach 1 toga level/approach 1 3/approach 1 toga level")
		}
	}
}

// Example 4: two sources far apart, the third one out: no signal; the level falls: Off, and the warning of it.
func TestExampleApart(t *testing.T) {
	want(t, "fault 1 8 1 2 0/fault 4 20 1 1 400/"+ready(onBeam)+"/go 13/go 1/go 1/go 1/go 1/go 1/lane 1/cmd",
		"ok/ok/"+readyTold+"/approach 1 toga level/approach 1 toga level/approach 1 toga level/approach 1 toga level/off 0 - off/off 0 - none/off 0 3/0 0 0")
}

// Example 5: below the alert height the level is frozen; a lane that dies there changes nothing.
func TestExampleFrozen(t *testing.T) {
	calm := answersOf(t, strings.Split(ready(atAlert)+"/go 80/go 300/where/go 80/where", "/")...)
	for lane := 1; lane < 3; lane++ {
		got := answersOf(t, strings.Split(fmt.Sprintf("fault 5 60 0 %d 0/", lane)+ready(atAlert)+"/go 80/go 300/where/go 80/where", "/")...)
		if !slices.Equal(got[1:], calm) {
			t.Errorf("lane %d: %q, want %q", lane, got[1:], calm)
		}
		if !strings.HasPrefix(calm[4], "approach 2 toga none") {
			t.Errorf("%q", calm)
		}
	}
	want(t, "fault 5 60 0 2 0/"+ready(atAlert)+"/go 80/lane 0/lane 1/lane 2", "ok/"+readyTold+"/approach 2 toga none/approach 2 2/approach 2 2/approach 2 1")
	// Above it the level falls.
	want(t, "fault 5 60 0 2 0/"+ready(onBeam)+"/go 80/lane 0", "ok/"+readyTold+"/approach 1 toga level/approach 1 2")
}

// Example 7: going around out of Flare: it climbs until the crew says off.
func TestExampleAround(t *testing.T) {
	want(t, ready("fly 40000 0 1998 0")+"", "ok/off 2 - none/ok/off 2 - none") // Too low to be armed.
	begin := ready(atAlert) + "/go 300/crew 2/go 1/cmd/go 1/cmd/go 1/cmd/go 100/cmd"
	want(t, begin+"/crew 4/go 1/cmd", readyTold+"/flare 2 toga none/ok/around 2 - none/0 -3 0/around 2 - none/0 -17 0/around 2 - none/0 -20 0/around 2 - none/0 -20 0/ok/off 2 - off/0 -6 0")
	// It climbs by 20 in each frame.
	want(t, ready(atAlert)+"/go 300/crew 2/go 5/where/go 10/where", readyTold+"/flare 2 toga none/ok/around 2 - none/12040 0 949 0 up/around 2 - none/8440 0 1149 0 up")
	// Off by the reset, but high alone.
	want(t, ready(onBeam)+"/crew 2/go 1/crew 8/go 1/go 4", readyTold+"/ok/around 2 - none/ok/off 2 - off/off 2 - none")
	want(t, ready(atAlert)+"/go 300/crew 2/go 1/crew 8/go 1/go 1", readyTold+"/flare 2 toga none/ok/around 2 - none/ok/around 2 - none/around 2 - none")
	// Off counts ahead of it; armed it can't go around, nor on its wheels.
	want(t, ready(onBeam)+"/crew 6/go 1", readyTold+"/ok/off 2 - off")
	want(t, "fly 400000 400 20000 0/go 4/crew 1/go 1/crew 2/go 1", "ok/off 2 - none/ok/armed 2 - none/ok/armed 2 - none")
	want(t, ready(atAlert)+"/go 500/crew 2/go 1/crew 4/go 1/go 1", readyTold+"/rollout 2 - wide/ok/rollout 2 - wide/ok/off 2 - off/off 2 - none")
}

// Example 8: 1524 high: Flare; 300: Align; on its wheels: Rollout.
func TestExampleHeights(t *testing.T) {
	const frames = 480
	lines := append(strings.Split(ready(atAlert), "/"), "where")
	for range frames {
		lines = append(lines, "go 1", "where")
	}
	answers := answersOf(t, lines...)[4:]
	mode, changes := "approach", ""
	for n := range frames {
		// A frame's mode hangs on where the aeroplane was ahead of it.
		was := answers[2*n]
		now, _, _ := strings.Cut(answers[2*n+1], " ")
		if now != mode {
			mode, changes = now, changes+" "+now
			h, _ := strconv.Atoi(strings.Fields(was)[2])
			if now == "flare" && (h > 1524 || h <= 1524-18) || now == "align" && (h > 300 || h <= 300-18) || now == "rollout" && !strings.Contains(was, "down") {
				t.Errorf("%s at %s", now, was)
			}
		}
	}
	if changes != " flare align rollout" {
		t.Error(changes)
	}
}

// Example 9: a source of Height says 500 too much from some frame on: the middle does not follow it.
func TestExampleMiddle(t *testing.T) {
	ask := "/go 200/where/cmd/go 200/where/cmd/go 80/where"
	calm := answersOf(t, strings.Split(ready(atAlert)+ask, "/")...)
	for source := range 3 {
		got := answersOf(t, strings.Split(fmt.Sprintf("fault 4 150 2 %d 500/", source)+ready(atAlert)+ask, "/")...)
		if !slices.Equal(got[1:], calm) {
			t.Errorf("source %d: %q, want %q", source, got[1:], calm)
		}
	}
}

// Example 10: gusts push it aside by 2 in each frame: it stays within 100 of the middle.
func TestExampleGust(t *testing.T) {
	for _, side := range []int{2, -2} {
		lines := append([]string{fmt.Sprintf("gust 0 %d 0 0", side)}, strings.Split(ready(atAlert), "/")...)
		for range 480 {
			lines = append(lines, "go 1", "where")
		}
		pushed := 0
		for _, a := range answersOf(t, lines...)[5:] {
			if strings.HasSuffix(a, "up") || strings.Contains(a, "down") {
				y, _ := strconv.Atoi(strings.Fields(a)[1])
				pushed = max(pushed, y*side/2)
				if y < -100 || y > 100 {
					t.Fatalf("gust %d: %s", side, a)
				}
			}
		}
		if pushed < 2 {
			t.Errorf("gust %d: nothing was pushed", side)
		}
	}
}

// soundly asks that a flight with one fault at most passes all modes in their order, and comes down as P0.5 and P0.6 say.
func soundly(t *testing.T, ahead []string, fly string, lane0Dies bool) {
	t.Helper()
	lines := landing(ahead, fly, 680)
	text := strings.Join(lines, "\n")
	told, line, ok := Run(text)
	wantTold, _, _ := runByWords(text)
	if line != 0 || !ok || told != wantTold {
		t.Errorf("%q: not as the account tells it", ahead)
	}
	answers := answersOf(t, lines...)
	shown := shows(lines, answers)
	if modes := modesOf(shown); modes != "armed approach flare align rollout" && !lane0Dies {
		t.Errorf("%q: %s", ahead, modes)
	}
	where := strings.Fields(answers[len(answers)-1])
	y, _ := strconv.Atoi(where[1])
	sank, err := strconv.Atoi(where[len(where)-1])
	if where[4] != "down" || y < -100 || y > 100 || sank > 4 || err != nil {
		t.Errorf("%q: %q", ahead, where)
	}
}

// P30.1: from Armed to Rollout, with none and with one fault of each kind, of each source and lane.
func TestLandings(t *testing.T) {
	const fly = "fly 180000 40 9000 -300"
	t.Run("none", func(t *testing.T) {
		t.Parallel()
		soundly(t, nil, fly, false)
		soundly(t, []string{"fault 0 0 0 0 0"}, fly, false)
		soundly(t, []string{"# in bad air", "gust -20 2 -1 50", "wrong 0 0 30", "wrong 1 1 -30", "wrong 2 2 30", "wrong 3 0 -500"}, fly, false)
	})
	for kind := 1; kind <= 4; kind++ {
		t.Run(strconv.Itoa(kind), func(t *testing.T) {
			t.Parallel()
			for signal := range 4 {
				soundly(t, []string{fmt.Sprintf("fault %d %d %d %d 2500", kind, 1+100*signal+37*kind, signal, (signal+kind)%3)}, fly, false)
			}
		})
	}
	t.Run("lanes", func(t *testing.T) {
		t.Parallel()
		for lane := range 3 {
			soundly(t, []string{fmt.Sprintf("fault 5 %d 0 %d 0", 90+lane*90, lane)}, fly, lane == 0)
		}
	})
}

// P30.1: all that lane 0 comes to show.
func TestShown(t *testing.T) {
	seen := map[string]int{}
	for _, text := range []string{
		landingText(""),
		landingText("fault 1 20 0 0 0"),
		landingText("fault 1 1 3 1 0"),
		landingText("fault 1 20 0 0 0\nfault 1 40 0 1 0"),
		landingText("fault 4 60 0 0 2000\nfault 4 60 0 1 2000"),
		landingText("fault 4 300 0 0 2000\nfault 4 300 0 1 2000\nfault 4 300 0 2 2000"),
		"fault 1 0 0 0 0\nfly 400000 400 20000 0\ngo 5\ncrew 1\ngo 1",
		"fault 1 9 0 0 0\n" + strings.ReplaceAll(ready(onBeam), "/", "\n") + "\ngo 20\ncrew 2\ngo 1\ngo 1\ncrew 4\ngo 1\ngo 1",
		strings.ReplaceAll(ready(onBeam), "/", "\n") + "\ngo 20\ncrew 2\ngo 1\ngo 1\ncrew 4\ngo 1\ngo 1",
		"fault 1 9 0 0 0\nfault 1 30 0 1 0\n" + strings.ReplaceAll(ready(onBeam), "/", "\n") + "\ngo 20\ncrew 2\ngo 1\ngo 30",
		"fly 400000 400 20000 0\ngo 4\ncrew 1\ngo 1\nunits 0\ngo 1\ngo 1",
		strings.ReplaceAll(ready(onBeam), "/", "\n") + "\ngo 20\nunits 0\ngo 1\ngo 1",
		strings.ReplaceAll(ready(onBeam), "/", "\n") + "\ngo 20\nunits 7\ngo 1\ngo 1",
	} {
		told, _, ok := Run(text)
		wantTold, _, _ := runByWords(text)
		if !ok || told != wantTold {
			t.Errorf("%.60q: not as the account tells it", text)
		}
		for _, line := range strings.Split(told, "\n") {
			if strings.Count(line, " ") == 3 {
				seen[line]++
			}
		}
	}
	for _, s := range []string{
		"off 0 - none", "off 1 - none", "off 2 - none", "off 0 - off", "off 1 - off", "off 2 - off",
		"armed 1 - none", "armed 2 - none",
		"approach 2 toga none", "approach 1 toga none", "approach 1 toga level", "approach 1 toga wide", "approach 2 toga wide",
		"flare 2 toga none", "flare 1 toga none", "flare 1 toga level", "flare 2 toga wide", "align 2 toga wide", "align 1 toga wide",
		"rollout 2 - wide", "rollout 1 - wide", "around 2 - none", "around 1 - none", "around 0 - none",
	} {
		if seen[s] == 0 {
			t.Errorf("never shown: %s", s)
		}
	}
}

// landingText tells a whole landing behind lines of its own.
func landingText(ahead string) string {
	return strings.Join(landing([]string{ahead}, "fly 180000 0 9000 0", 680), "\n")
}
