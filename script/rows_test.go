package script

import (
	"fmt"
	"strings"
	"testing"

	"flarepath/api"
	"flarepath/loop"
)

const (
	// onBeam is a flight that begins on the beam: it comes down in some 1100 frames.
	onBeam = "fly 400000 0 20000 0"
	// atAlert is one that begins a little above the alert height.
	atAlert = "fly 124000 0 6200 0"
)

// ready is a flight whose test is passed, and that is armed and approaching by frame 6.
func ready(fly string) string {
	return fly + "/go 4/crew 1/go 2"
}

// readyTold is what is told of ready.
const readyTold = "ok/off 2 - none/ok/approach 2 toga none"

// P30.1: a fault is ok, whatever it is; a flight with one that may not be is refused.
func TestFaultKinds(t *testing.T) {
	for _, c := range []struct {
		fault, fly string
	}{
		{"0 0 0 0 0", "ok"}, {"1 0 0 0 0", "ok"}, {"2 0 0 0 0", "ok"}, {"3 0 0 0 0", "ok"}, {"4 0 0 0 0", "ok"}, {"5 0 0 0 0", "ok"},
		{"6 0 0 0 0", "error 2"}, {"7 0 0 0 0", "error 2"}, {"254 0 0 0 0", "error 2"}, {"255 0 0 0 0", "error 2"},
		// A byte of these would be a kind that there is.
		{"256 0 0 0 0", "error 2"}, {"257 0 0 0 0", "error 2"}, {"260 0 0 0 0", "error 2"}, {"261 0 0 0 0", "error 2"}, {"512 0 0 0 0", "error 2"}, {"65536 0 0 0 0", "error 2"},
		{"16777215 0 0 0 0", "error 2"}, {"16776960 0 0 0 0", "error 2"},
		// Which sources and lanes there are.
		{"1 5 3 2 0", "ok"}, {"1 5 4 2 0", "error 2"}, {"1 5 3 3 0", "error 2"}, {"2 5 4 0 0", "error 2"}, {"3 5 0 3 0", "error 2"}, {"4 5 16777215 0 9", "error 2"}, {"4 5 0 16777215 9", "error 2"},
		{"4 5 256 0 9", "error 2"}, {"4 5 0 256 9", "error 2"}, {"4 5 65536 65536 9", "error 2"},
		{"5 5 0 2 0", "ok"}, {"5 5 4 2 0", "ok"}, {"5 5 16777215 2 0", "ok"}, {"5 5 0 3 0", "error 2"}, {"5 5 0 16777215 0", "error 2"},
		// Nothing is asked of none.
		{"0 5 4 3 7", "ok"}, {"0 16777215 16777215 16777215 -16777215", "ok"},
		{"4 16777215 3 2 16777215", "ok"}, {"4 16777215 3 2 -16777215", "ok"},
	} {
		after := "ok"
		if c.fly != "ok" {
			after = "error 12"
		}
		want(t, "fault "+c.fault+"/"+onBeam+"/lane 0", "ok/"+c.fly+"/"+strings.Replace(after, "ok", "off 0 3", 1))
	}
}

// P30.1: 16 faults may be, 17 may not, and that counts ahead of what one of them is.
func TestManyFaults(t *testing.T) {
	of := func(n int, fault string) string { return strings.Repeat("fault "+fault+"/", n) }
	oks := func(n int) string { return strings.Repeat("ok/", n) }
	want(t, of(16, "1 9 0 0 0")+onBeam+"/where", oks(16)+"ok/400000 0 20000 0 up")
	want(t, of(17, "1 9 0 0 0")+onBeam+"/where", oks(17)+"error 3/error 12")
	want(t, of(17, "0 0 0 0 0")+onBeam+"/where", oks(17)+"error 3/error 12")
	want(t, of(17, "9 0 0 0 0")+onBeam+"/where", oks(17)+"error 3/error 12")
	want(t, of(16, "9 0 0 0 0")+onBeam+"/where", oks(16)+"error 2/error 12")
	want(t, of(900, "1 0 0 0 0")+onBeam+"/cmd", oks(900)+"error 3/error 12")
	// Each flight has all of them: those that one before it had, too.
	want(t, of(16, "0 0 0 0 0")+onBeam+"/"+of(1, "0 0 0 0 0")+"go 1/"+onBeam+"/go 1", oks(16)+"ok/ok/off 0 - none/error 3/error 12")
	want(t, of(8, "0 0 0 0 0")+onBeam+"/"+of(8, "0 0 0 0 0")+onBeam+"/"+of(1, "0 0 0 0 0")+onBeam, oks(8)+"ok/"+oks(8)+"ok/ok/error 3")
}

// P30.1: a fault is there from its frame on, in flights that begin behind its line.
func TestFaultFrom(t *testing.T) {
	// Three dead lanes are three sure signs: there are no commands.
	for at, cmds := range []string{"none/none/none", "none/none/none", "0 0 0/none/none", "0 0 0/0 0 0/none", "0 0 0/0 0 0/0 0 0"} {
		faults := ""
		for lane := range 3 {
			faults += fmt.Sprintf("fault 5 %d 0 %d 0/", at, lane)
		}
		shows := []string{"off 0 - none/", "off 0 - none/", "off 0 - none/"}
		cmd := strings.Split(cmds, "/")
		want(t, faults+onBeam+"/go 1/cmd/go 1/cmd/go 1/cmd",
			"ok/ok/ok/ok/"+shows[0]+cmd[0]+"/"+shows[1]+cmd[1]+"/"+shows[2]+cmd[2])
	}
	// The flight that is there has it not; the next one has.
	dead := "fault 5 0 0 0 0/fault 5 0 0 1 0/fault 5 0 0 2 0"
	want(t, onBeam+"/"+dead+"/go 1/cmd/"+onBeam+"/go 1/cmd/"+onBeam+"/go 1/cmd",
		"ok/ok/ok/ok/off 0 - none/0 0 0/ok/off 0 - none/none/ok/off 0 - none/none")
	want(t, onBeam+"/go 1/"+dead+"/go 1/cmd/lane 0", "ok/off 0 - none/ok/ok/ok/off 0 - none/0 0 0/off 0 3")
}

// P30.1: what a fault says, number by number, is what its flight has.
func TestFaultNumbers(t *testing.T) {
	for _, f := range []api.Fault{
		{Kind: api.FaultSilent, At: 9, Signal: api.Glide, Source: 1},
		{Kind: api.FaultStatus, At: 12, Signal: api.Height, Source: 2},
		{Kind: api.FaultParity, At: 7, Signal: api.Drift, Source: 0},
		{Kind: api.FaultOff, At: 8, Signal: api.Loc, Source: 2, By: 90},
		{Kind: api.FaultOff, At: 11, Signal: api.Glide, Source: 0, By: -90},
		{Kind: api.FaultLane, At: 10, Source: 1},
	} {
		line := fmt.Sprintf("fault %d %d %d %d %d", f.Kind, f.At, f.Signal, f.Source, f.By)
		// Of the other sources of the signal one says nothing: then the middle goes by the one that is wrong, too.
		other := api.Fault{Kind: api.FaultSilent, At: 3, Signal: f.Signal, Source: (f.Source + 1) % 3}
		otherLine := fmt.Sprintf("fault 1 3 %d %d 0", other.Signal, other.Source)
		wantFlight(t, line+"\n"+otherLine, api.Gust{}, []api.Fault{f, other})
	}
}

// wantFlight asks for frames as a flight of its own does them, from Off to Approach and on, behind lines that set what the air does and which faults there are.
func wantFlight(t *testing.T, lines string, g api.Gust, faults []api.Fault) {
	t.Helper()
	flight, errno := loop.New(api.Plane{X: 400000, Y: -50, H: 20000, Turn: 100}, faults)
	if errno != api.OK {
		t.Fatal(errno)
	}
	text := strings.Split(lines, "\n")
	var answers []string
	for range text {
		answers = append(answers, "ok")
	}
	text, answers = append(text, "fly 400000 -50 20000 100"), append(answers, "ok")
	for frame := 1; frame <= 40; frame++ {
		crew := uint8(0)
		if frame == 5 {
			text, answers = append(text, "crew 1"), append(answers, "ok")
			crew = api.CrewArm
		}
		out, errno := flight.Frame(g, crew, 15)
		if errno != api.OK {
			t.Fatal(errno)
		}
		text = append(text, "go 1", "where", "cmd", "lane 1")
		lane, _ := flight.Lane(1)
		answers = append(answers, showByWords(out.Show[0]), whereByWords(flight.Plane()), cmdByWords(out), laneByWords(lane))
	}
	got := answersOf(t, text...)
	for i, a := range answers {
		if got[i] != a {
			t.Errorf("%q, line %d: %s: %s, want %s", lines, i, text[i], got[i], a)
			return
		}
	}
}

// P30.1: gust, each of its numbers, and each of wrong's: they set the air of the frames behind them.
func TestAir(t *testing.T) {
	for _, n := range [][4]int64{{20, 2, 1, 50}, {-20, -2, -1, -50}, {7, 0, 0, 0}, {0, 1, 0, 0}, {0, 0, 1, 0}, {0, 0, 0, 33}, {16777215, -16777215, 16777215, -16777215}} {
		line := fmt.Sprintf("gust %d %d %d %d", n[0], n[1], n[2], n[3])
		wantFlight(t, line, api.Gust{Along: n[0], Side: n[1], Up: n[2], Turn: n[3]}, nil)
	}
	for signal := range api.Signals {
		for source := range api.Sources {
			for _, by := range []int64{30, -30, 7, 16777215, -16777215} {
				// One of the others says nothing: then what is told hangs on this one.
				var g api.Gust
				g.Wrong[signal][source] = by
				other := api.Fault{Kind: api.FaultSilent, Signal: signal, Source: (source + 1) % 3}
				wantFlight(t, fmt.Sprintf("fault 1 0 %d %d 0\nwrong %d %d %d", signal, other.Source, signal, source, by), g, []api.Fault{other})
			}
		}
	}
}

// P30.1: gust and wrong leave what the other one set; each counts until it is said anew.
func TestAirStays(t *testing.T) {
	g := api.Gust{Along: 3, Side: -2, Up: 1, Turn: 20}
	g.Wrong[api.Loc][0], g.Wrong[api.Loc][1] = 30, 20
	g.Wrong[api.Glide][2] = -9
	for _, lines := range []string{
		"gust 3 -2 1 20\nwrong 0 0 30\nwrong 0 1 20\nwrong 1 2 -9",
		"wrong 0 0 30\nwrong 0 1 20\nwrong 1 2 -9\ngust 3 -2 1 20",
		"wrong 1 2 -9\nwrong 0 1 20\ngust 3 -2 1 20\nwrong 0 0 30",
		"gust 1 1 1 1\nwrong 0 0 -5\nwrong 3 2 8\nwrong 0 1 4\nwrong 0 1 20\nwrong 1 2 -9\nwrong 3 2 0\nwrong 0 0 30\ngust 3 -2 1 20",
		"gust 0 0 0 0\nwrong 0 0 30\ngust 3 -2 1 20\nwrong 0 1 20\nwrong 1 2 -9",
	} {
		wantFlight(t, lines, g, nil)
	}
	// What is said anew is not added to what was said.
	var back api.Gust
	back.Wrong[api.Loc] = [3]int64{-30, -30, -30}
	back.Wrong[api.Glide] = [3]int64{20, 20, 20}
	lines := ""
	for _, by := range []int{30, -30} {
		for source := range 3 {
			lines += fmt.Sprintf("wrong 0 %d %d\nwrong 1 %d %d\n", source, by, source, -by-by/3)
		}
	}
	wantFlight(t, lines+"wrong 1 0 20\nwrong 1 1 20\nwrong 1 2 20", back, nil)
	// From then on: in the frames of a flight that is there, and of the next ones.
	want(t, "gust -20 2 1 -50/fly 1000 0 9000 0/go 1/where/fly 0 0 9000 0/go 2/where/gust 0 0 0 0/go 1/where/fly 0 0 9000 0/go 1/where",
		"ok/ok/off 0 - none/660 2 8999 -50 up/ok/off 0 - none/-680 4 8998 -100 up/ok/off 0 - none/-1040 4 8998 -100 up/ok/off 0 - none/-360 0 9000 0 up")
}

// P30.1: wrong of a source that is none: error 2, and nothing is changed.
func TestWrongOfNone(t *testing.T) {
	for signal := range 6 {
		for source := range 5 {
			answer := "ok"
			if signal > 3 || source > 2 {
				answer = "error 2"
			}
			want(t, fmt.Sprintf("wrong %d %d 5/%s/wrong %d %d -5", signal, source, onBeam, signal, source), answer+"/ok/"+answer)
		}
	}
	for _, line := range []string{"wrong 4 0 9", "wrong 0 3 9", "wrong 4 3 9", "wrong 16777215 0 9", "wrong 0 16777215 9", "wrong 256 0 9", "wrong 0 256 9", "wrong 65536 65536 9"} {
		want(t, line, "error 2")
		text := "fault 1 0 0 1 0/" + ready(onBeam) + "/" + line + "/go 30/cmd/where/lane 1"
		calm := strings.Replace(text, "/"+line, "", 1)
		if got, calmly := answersOf(t, strings.Split(text, "/")...), answersOf(t, strings.Split(calm, "/")...); strings.Join(got[len(got)-4:], "/") != strings.Join(calmly[len(calmly)-4:], "/") {
			t.Errorf("%s: %q, without it %q", line, got, calmly)
		}
	}
}

// P30.1: what the crew does counts for the next frame that is done, and for that alone.
func TestCrew(t *testing.T) {
	// Ready to be armed, not yet on the beam: it stays Armed.
	const off = "fly 400000 400 20000 0/go 4/"
	for _, c := range []struct{ lines, want string }{
		{"crew 0/go 1", "ok/off 2 - none"},
		{"crew 1/go 1", "ok/armed 2 - none"},
		{"crew 1/go 1/crew 4/go 1", "ok/armed 2 - none/ok/off 2 - none"},
		{"crew 17/go 1", "ok/armed 2 - none"},
		{"crew 16/go 1", "ok/off 2 - none"},
		{"crew 16777201/go 1", "ok/armed 2 - none"},
		{"crew 16777200/go 1", "ok/off 2 - none"},
		// In that frame alone.
		{"crew 1/go 1/crew 20/go 1/go 1", "ok/armed 2 - none/ok/off 2 - none/off 2 - none"},
		{"crew 1/go 1/crew 4/go 3", "ok/armed 2 - none/ok/off 2 - none"},
		{"crew 8/go 9", "ok/off 2 - none"},
		// Whatever stands between.
		{"crew 1/go 0/go 1", "ok/off 2 - none/armed 2 - none"},
		{"crew 1/go 5001/go 1", "ok/error 3/armed 2 - none"},
		{"crew 1/where/cmd/lane 0/lane 3/units 15/gust 0 0 0 0/wrong 0 0 0/wrong 4 0 0/fault 0 0 0 0 0/go 1", "ok/398560 400 20000 0 up/0 0 0/off 2 3/error 2/ok/ok/ok/error 2/ok/armed 2 - none"},
		// Of two the later one counts.
		{"crew 1/crew 0/go 1", "ok/ok/off 2 - none"},
		{"crew 0/crew 1/go 1", "ok/ok/armed 2 - none"},
		{"crew 8/crew 1/go 1", "ok/ok/armed 2 - none"},
		{"crew 1/crew 16/go 1", "ok/ok/off 2 - none"},
	} {
		want(t, off+c.lines, "ok/off 2 - none/"+c.want)
	}
	// With the reset in its first frame alone the test is over a frame later.
	for _, c := range []struct{ lines, want string }{
		{onBeam + "/go 4", "ok/off 2 - none"},
		{"crew 8/" + onBeam + "/go 4/go 1", "ok/ok/off 0 - none/off 2 - none"},
		{"crew 8/" + onBeam + "/go 5", "ok/ok/off 2 - none"},
		{onBeam + "/crew 8/go 3/go 1/go 1", "ok/ok/off 0 - none/off 0 - none/off 2 - none"},
		// It stays where no frame is done: a flight that there is not, one that is refused, another one.
		{"crew 8/go 1/go 0/" + onBeam + "/go 4/go 1", "ok/error 12/error 12/ok/off 0 - none/off 2 - none"},
		{onBeam + "/crew 8/" + onBeam + "/go 4/go 1", "ok/ok/ok/off 0 - none/off 2 - none"},
		{"crew 8/" + onBeam + "/" + onBeam + "/go 4/go 1", "ok/ok/ok/off 0 - none/off 2 - none"},
		{onBeam + "/go 2/crew 8/" + onBeam + "/go 4/go 1", "ok/off 0 - none/ok/ok/off 0 - none/off 2 - none"},
		// What was done is done: the next flight begins without.
		{"crew 8/" + onBeam + "/go 1/" + onBeam + "/go 4", "ok/ok/off 0 - none/ok/off 2 - none"},
	} {
		want(t, c.lines, c.want)
	}
	// All lanes are dead, but the frame is done.
	dead := "fault 5 0 0 0 0/fault 5 0 0 1 0/fault 5 0 0 2 0/"
	want(t, dead+onBeam+"/crew 8/go 1/go 9", "ok/ok/ok/ok/ok/off 0 - none/off 0 - none")
}

// sessionOf tells what lines come to, beneath what is told of them.
func sessionOf(t *testing.T, lines string) *session {
	t.Helper()
	orders, _, ok := read(strings.ReplaceAll(lines, "/", "\n"))
	if !ok {
		t.Fatal(lines)
	}
	s := begin()
	for _, o := range orders {
		answer(s, o)
	}
	return s
}

// P30.1: a flight that is refused does not take what the crew does. (No flight begins behind such a fault any more, so it is asked of the session itself.)
func TestCrewStaysBehindRefusal(t *testing.T) {
	for _, lines := range []string{"crew 8/fault 9 0 0 0 0/" + onBeam + "/go 1", onBeam + "/crew 8/fault 5 0 0 3 0/" + onBeam + "/go 1/go 0"} {
		if s := sessionOf(t, lines); s.crew != 8 || s.flight != nil {
			t.Errorf("%s: crew %d", lines, s.crew)
		}
	}
}

// P30.1: the crew's and the units' lowest four bits alone are kept: what is beneath looks at no others, so it is asked of the session itself.
func TestFourBits(t *testing.T) {
	if s := begin(); s.crew != 0 || s.units != 15 {
		t.Errorf("at first: crew %d, units %d", s.crew, s.units)
	}
	for n, bits := range map[int]uint8{0: 0, 5: 5, 15: 15, 16: 0, 17: 1, 31: 15, 32: 0, 255: 15, 256: 0, 1<<24 - 1: 15, 1<<24 - 16: 0} {
		if s := sessionOf(t, fmt.Sprintf("crew %d", n)); s.crew != bits || s.units != 15 {
			t.Errorf("crew %d: crew %d, units %d", n, s.crew, s.units)
		}
		if s := sessionOf(t, fmt.Sprintf("units %d", n)); s.units != bits || s.crew != 0 {
			t.Errorf("units %d: crew %d, units %d", n, s.crew, s.units)
		}
	}
}

// P30.1: units that are well: all at first, then those that are said, the lowest four bits of it.
func TestUnits(t *testing.T) {
	for _, c := range []struct{ lines, want string }{
		{"go 4", "off 2 - none"},
		{"units 15/go 4", "ok/off 2 - none"},
		{"units 31/go 4", "ok/off 2 - none"},
		{"units 16777215/go 4", "ok/off 2 - none"},
		{"units 14/go 9", "ok/off 0 - none"},
		{"units 16/go 9", "ok/off 0 - none"},
		{"units 0/go 9", "ok/off 0 - none"},
		{"units 0/units 15/go 4", "ok/ok/off 2 - none"},
		{"units 0/go 4/units 15/go 3/go 1", "ok/off 0 - none/ok/off 0 - none/off 2 - none"},
		// From then on, in each frame.
		{"go 4/units 14/go 1/go 7/units 15/go 1", "off 2 - none/ok/off 1 - none/off 1 - none/ok/off 2 - none"},
		{"go 4/units 23/go 1/go 1", "off 2 - none/ok/off 1 - none/off 1 - none"},
		{"go 4/units 12/go 1/units 11/go 1/units 13/go 1", "off 2 - none/ok/off 0 - none/ok/off 0 - none/ok/off 1 - none"},
		// In the next flight too.
		{"go 4/units 14/" + onBeam + "/go 9/units 15/" + onBeam + "/go 4", "off 2 - none/ok/ok/off 0 - none/ok/ok/off 2 - none"},
	} {
		want(t, onBeam+"/"+c.lines, "ok/"+c.want)
		// Ahead of the flight it is the same.
		if lines := strings.Split(c.lines, "/"); strings.HasPrefix(lines[0], "units") {
			want(t, lines[0]+"/"+onBeam+"/"+strings.Join(lines[1:], "/"), "ok/"+c.want)
		}
	}
	want(t, "units 0/go 1/"+onBeam+"/go 9", "ok/error 12/ok/off 0 - none")
}

// P30.1: how many frames one line does.
func TestGo(t *testing.T) {
	for _, c := range []struct {
		line   string
		frames int
		show   string
	}{
		{"go 0", 0, "off 0 - none"}, {"go 1", 1, "off 0 - none"}, {"go 2", 2, "off 0 - none"}, {"go 3", 3, "off 0 - none"}, {"go 4", 4, "off 2 - none"}, {"go 10", 10, "off 2 - none"},
		{"go 255", 255, "off 2 - none"}, {"go 256", 256, "off 2 - none"}, {"go 257", 257, "off 2 - none"}, {"go 4999", 4999, "off 2 - none"}, {"go 5000", 5000, "off 2 - none"},
		{"go 5001", 0, "error 3"}, {"go 5256", 0, "error 3"}, {"go 65536", 0, "error 3"}, {"go 65537", 0, "error 3"}, {"go 16777215", 0, "error 3"},
	} {
		// In Off nothing goes to the surfaces: it flies on, 360 by each frame.
		at := fmt.Sprintf("%d 7 20000 0 up", 400000-360*c.frames)
		want(t, "fly 400000 7 20000 0/"+c.line+"/where", "ok/"+c.show+"/"+at)
	}
	want(t, onBeam+"/go 4/go 5001/go 0/where/go 5000/go 5000/where", "ok/off 2 - none/error 3/off 2 - none/398560 0 20000 0 up/off 2 - none/off 2 - none/-3201440 0 20000 0 up")
}

// P30.1: frames are frames, however many lines they come by.
func TestGoByParts(t *testing.T) {
	begin := ready(onBeam) + "/"
	told := lastOf(t, strings.Split(begin+"go 420/where", "/")...)
	for _, parts := range []string{"go 419/go 1", "go 1/go 419", "go 210/go 210", "go 0/go 420/go 0", strings.TrimSuffix(strings.Repeat("go 7/", 60), "/"), strings.TrimSuffix(strings.Repeat("go 1/cmd/", 420), "/")} {
		if got := lastOf(t, strings.Split(begin+parts+"/where", "/")...); got != told {
			t.Errorf("%.100s: %s, want %s", parts, got, told)
		}
	}
}

// P30.1: what there is room for: a flight has MaxFrames.
func TestRoom(t *testing.T) {
	for _, c := range []struct {
		did    int
		frames int64
		want   bool
	}{
		{0, 0, true}, {0, 5000, true}, {1048576 - 5000, 5000, true}, {1048576 - 4999, 5000, false}, {1048576 - 4999, 4999, true},
		{1048575, 1, true}, {1048575, 2, false}, {1048575, 0, true}, {1048576, 0, true}, {1048576, 1, false}, {1048576, 5000, false},
	} {
		if got := hasRoom(c.did, c.frames); got != c.want {
			t.Errorf("hasRoom(%d, %d) = %t", c.did, c.frames, got)
		}
	}
}

// P30.1: go, where, cmd and lane are refused ahead of a fly that is not refused. Of two errors the one that is named first counts.
func TestNoFlight(t *testing.T) {
	const asked = "go 0/go 1/go 5000/where/cmd/lane 0/lane 1/lane 2/go 5001/go 16777215/lane 3/lane 16777215"
	const none = "error 12/error 12/error 12/error 12/error 12/error 12/error 12/error 12/error 3/error 3/error 2/error 2"
	want(t, asked, none)
	// Other lines make no flight.
	want(t, "crew 1/units 3/gust 1 2 3 4/wrong 0 0 9/wrong 4 0 9/fault 1 0 0 0 0/"+asked, "ok/ok/ok/ok/error 2/ok/"+none)
	// One that is refused is none.
	want(t, "fault 6 0 0 0 0/"+onBeam+"/"+asked, "ok/error 2/"+none)
	// One that is not refused is one; one that is refused lets it go.
	want(t, asked+"/"+onBeam+"/go 1/where/cmd/lane 1/fault 6 0 0 0 0/go 1/where/cmd/lane 1/"+onBeam+"/"+asked+"/"+onBeam+"/"+asked,
		none+"/ok/off 0 - none/399640 0 20000 0 up/0 0 0/off 0 3/ok/off 0 - none/399280 0 20000 0 up/0 0 0/off 0 3/error 2/"+none+"/error 2/"+none)
	want(t, ready(onBeam)+"/"+strings.Repeat("fault 0 0 0 0 0/", 17)+"cmd/"+onBeam+"/"+asked, readyTold+"/"+strings.Repeat("ok/", 17)+"0 14 0/error 3/"+none)
}

// P30.1: a fly behind a fly: the frames, what was shown and the commands begin anew.
func TestFlyAgain(t *testing.T) {
	want(t, ready(onBeam)+"/cmd/fly -5 6 -7 8/go 0/cmd/where/lane 0/lane 1/lane 2/go 3/go 1",
		readyTold+"/0 14 0/ok/off 0 - none/none/-5 6 -7 8 up/off 0 3/off 0 3/off 0 3/off 0 - none/off 2 - none")
	want(t, ready(onBeam)+"/"+ready(onBeam)+"/cmd/where", readyTold+"/"+readyTold+"/0 14 0/397840 0 19986 0 up")
	// A fault's frames are counted anew.
	dies := "fault 5 3 0 0 0/fault 5 3 0 1 0/fault 5 3 0 2 0/"
	want(t, dies+onBeam+"/go 2/cmd/go 1/cmd/"+onBeam+"/go 2/cmd/go 1/cmd", "ok/ok/ok/ok/off 0 - none/0 0 0/off 0 - none/none/ok/off 0 - none/0 0 0/off 0 - none/none")
	// The units, the air and what is wrong stay.
	want(t, onBeam+"/gust 10 1 1 1/units 12/go 4/where/fly 400000 0 20000 0/go 9/where", "ok/ok/ok/off 0 - none/398520 4 19996 4 up/ok/off 0 - none/396670 9 19991 9 up")
}

// P30.1: where it is: up with four numbers, down with how fast it sank too.
func TestWhere(t *testing.T) {
	want(t, "fly -1 -2 -3 -4/where/go 1/where/go 1/where", "ok/-1 -2 -3 -4 up/off 0 - none/-361 -2 0 -4 down 0/off 0 - none/-721 -2 0 -4 down 0")
	want(t, "fly 0 0 0 0/where/go 1/where", "ok/0 0 0 0 up/off 0 - none/-360 0 0 0 down 0")
	want(t, "fly 0 0 1 0/gust 0 0 1 0/go 1/where/go 5/where", "ok/ok/off 0 - none/-360 0 0 0 down 1/off 2 - none/-2160 0 0 0 down 1")
	want(t, "fly 0 0 1 0/gust 0 0 -1 0/go 5/where", "ok/ok/off 2 - none/-1800 0 6 0 up")
	// It sinks by -1: it is down none the less, since it was below the ground.
	want(t, "fly 9 9 -9 9/gust 20 -2 -9 60/go 1/where", "ok/ok/off 0 - none/-371 7 0 59 down -1")
	want(t, "fly 16777215 -16777215 16777215 -16777215/where/go 1/where", "ok/16777215 -16777215 16777215 -16777215 up/off 0 - none/16776855 -16777215 16777215 -16777215 up")
}

// P30.1: what went to the surfaces in the last frame; none ahead of the first one, and where no lane is alive.
func TestCmd(t *testing.T) {
	want(t, onBeam+"/cmd/go 0/cmd/go 1/cmd/cmd", "ok/none/off 0 - none/none/off 0 - none/0 0 0/0 0 0")
	want(t, "fly 400000 -100 20100 0/cmd/go 4/crew 1/go 1/cmd/go 1/cmd/go 1/cmd/go 20/cmd", "ok/none/off 2 - none/ok/armed 2 - none/0 0 0/approach 2 toga none/7 14 0/approach 2 toga none/6 24 0/approach 2 toga none/1 24 0")
	// A go that does no frame leaves them.
	want(t, ready(onBeam)+"/cmd/go 5001/cmd/go 0/cmd", readyTold+"/0 14 0/error 3/0 14 0/approach 2 toga none/0 14 0")
	// One lane and another one die, the third one steers on; then it dies too.
	want(t, "fault 5 8 0 0 0/fault 5 9 0 1 0/fault 5 11 0 2 0/"+ready(onBeam)+"/go 1/cmd/go 1/cmd/go 1/cmd/go 1/cmd/go 1/cmd/go 9/cmd",
		"ok/ok/ok/"+readyTold+"/approach 2 toga none/0 24 0/off 0 - none/0 24 0/off 0 - none/0 24 0/off 0 - none/0 24 0/off 0 - none/none/off 0 - none/none")
}

// P30.1: what lane 0 shows where it is dead: nothing, as if all were 0.
func TestDeadLane(t *testing.T) {
	want(t, "fault 5 8 0 0 0/"+ready(onBeam)+"/go 1/go 1/go 1/lane 0/lane 1/lane 2/go 11/lane 0/lane 1/cmd",
		"ok/"+readyTold+"/approach 2 toga none/off 0 - none/off 0 - none/approach 2 3/approach 2 3/approach 2 3/off 0 - none/approach 2 1/approach 1 2/0 21 0")
	// Of another one that is dead lane 0 shows no less, until it takes it for dead.
	want(t, "fault 5 8 0 2 0/"+ready(onBeam)+"/go 12/go 1/lane 0/lane 2", "ok/"+readyTold+"/approach 2 toga none/approach 1 toga level/approach 1 2/approach 2 1")
}

// P30.1: each lane, and those that are none.
func TestLane(t *testing.T) {
	want(t, onBeam+"/lane 0/lane 1/lane 2/lane 3/lane 4/lane 255/lane 256/lane 65536/lane 16777215/go 4/lane 0/lane 1/lane 2/lane 3",
		"ok/off 0 3/off 0 3/off 0 3/error 2/error 2/error 2/error 2/error 2/error 2/off 2 - none/off 2 3/off 2 3/off 2 3/error 2")
	for dead := range 3 {
		text := fmt.Sprintf("fault 5 5 0 %d 0/%s/go 40", dead, onBeam)
		for lane := range 3 {
			answer := "off 1 2"
			if lane == dead {
				answer = "off 2 1"
			}
			if got := lastOf(t, strings.Split(text+fmt.Sprintf("/lane %d", lane), "/")...); got != answer {
				t.Errorf("lane %d dead: lane %d: %s, want %s", dead, lane, got, answer)
			}
		}
	}
}
