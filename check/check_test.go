package check

import (
	"math"
	"slices"
	"testing"

	"flarepath/api"
)

const (
	least    = math.MinInt
	greatest = math.MaxInt
)

const allUnits = 15

// longest is the most frames that a test takes.
const longest = 20

var passed = api.Pretest{Step: 4, Passed: true}

func waiting(step, frames int) api.Pretest {
	return api.Pretest{Step: step, Frames: frames}
}

func failed(step int) api.Pretest {
	return api.Pretest{Step: step, Frames: 5, Failed: true}
}

// course is a test that may be, and what it comes to by a frame in which the unit of its step is well, or not.
type course struct {
	at, well, not api.Pretest
}

// courses are those of all tests that may be.
func courses() []course {
	return []course{
		{waiting(0, 0), waiting(1, 0), waiting(0, 1)},
		{waiting(0, 1), waiting(1, 0), waiting(0, 2)},
		{waiting(0, 2), waiting(1, 0), waiting(0, 3)},
		{waiting(0, 3), waiting(1, 0), waiting(0, 4)},
		{waiting(0, 4), waiting(1, 0), failed(0)},
		{failed(0), failed(0), failed(0)},
		{waiting(1, 0), waiting(2, 0), waiting(1, 1)},
		{waiting(1, 1), waiting(2, 0), waiting(1, 2)},
		{waiting(1, 2), waiting(2, 0), waiting(1, 3)},
		{waiting(1, 3), waiting(2, 0), waiting(1, 4)},
		{waiting(1, 4), waiting(2, 0), failed(1)},
		{failed(1), failed(1), failed(1)},
		{waiting(2, 0), waiting(3, 0), waiting(2, 1)},
		{waiting(2, 1), waiting(3, 0), waiting(2, 2)},
		{waiting(2, 2), waiting(3, 0), waiting(2, 3)},
		{waiting(2, 3), waiting(3, 0), waiting(2, 4)},
		{waiting(2, 4), waiting(3, 0), failed(2)},
		{failed(2), failed(2), failed(2)},
		{waiting(3, 0), passed, waiting(3, 1)},
		{waiting(3, 1), passed, waiting(3, 2)},
		{waiting(3, 2), passed, waiting(3, 3)},
		{waiting(3, 3), passed, waiting(3, 4)},
		{waiting(3, 4), passed, failed(3)},
		{failed(3), failed(3), failed(3)},
		{passed, passed, passed},
	}
}

func mayBe(p api.Pretest) bool {
	return slices.ContainsFunc(courses(), func(c course) bool { return c.at == p })
}

// testsAround are all tests of numbers around each limit of the chapter and at the ends of int, those that may not be too.
func testsAround() []api.Pretest {
	var all []api.Pretest
	numbers := []int{least, least + 1, -257, -256, -5, -4, -2, -1, 0, 1, 2, 3, 4, 5, 6, 7, 8, 9, 255, 256, 257, 260, 261, 1 << 32, 1<<32 + 4, 1<<32 + 5, greatest - 1, greatest}
	for _, step := range numbers {
		for _, frames := range numbers {
			for _, is := range [][2]bool{{false, false}, {false, true}, {true, false}, {true, true}} {
				all = append(all, api.Pretest{Step: step, Frames: frames, Passed: is[0], Failed: is[1]})
			}
		}
	}
	return all
}

// unitOf is the bit of a step's unit; the step behind the last one has none.
func unitOf(step int) uint8 {
	return [5]uint8{1, 2, 4, 8, 0}[step]
}

// byTurns tells what a new test comes to, by the frames of each step's turn.
func byTurns(units []uint8) api.Pretest {
	rest := units
	for step := range 4 {
		turn := rest[:min(5, len(rest))]
		at := slices.IndexFunc(turn, func(well uint8) bool { return well&unitOf(step) > 0 })
		switch {
		case at >= 0:
			rest = rest[at+1:]
		case len(turn) == 5:
			return failed(step)
		default:
			return waiting(step, len(turn))
		}
	}
	return passed
}

// runs calls do with many lists of units, short and long ones, of which few or most are well: the same ones each time.
func runs(do func(units []uint8)) {
	next := uint32(1)
	draw := func() uint8 {
		next = next*1664525 + 1013904223
		return uint8(next >> 24)
	}
	for i := range 30000 {
		units := make([]uint8, i%(longest+8))
		for j := range units {
			switch i / 100 % 3 {
			case 0:
				units[j] = draw()
			case 1:
				units[j] = draw() & draw() & draw()
			default:
				units[j] = draw() | draw()
			}
		}
		do(units)
	}
}

func isOver(p api.Pretest) bool { return p.Passed || p.Failed }

// P16.1: what may be, and one beside each limit.
func TestMay(t *testing.T) {
	if n := len(courses()); n != 25 {
		t.Fatalf("%d tests that may be", n)
	}
	for _, c := range courses() {
		if !May(c.at) {
			t.Errorf("May(%v) = false", c.at)
		}
	}
	for _, p := range []api.Pretest{
		{Step: -1},
		{Step: 5},
		{Step: least},
		{Step: greatest},
		{Step: -1, Passed: true},
		{Step: 5, Passed: true},
		{Step: -1, Frames: 5, Failed: true},
		{Step: 5, Frames: 5, Failed: true},
		{Frames: -1},
		{Frames: 6},
		{Frames: least},
		{Frames: greatest},
		{Frames: -1, Failed: true},
		{Frames: 6, Failed: true},
		{Step: 4},
		{Step: 4, Frames: 1},
		{Step: 4, Frames: 5, Failed: true},
		{Passed: true},
		{Step: 1, Passed: true},
		{Step: 2, Passed: true},
		{Step: 3, Passed: true},
		{Frames: 5},
		{Step: 3, Frames: 5},
		{Failed: true},
		{Step: 2, Frames: 4, Failed: true},
		{Step: 4, Passed: true, Failed: true},
		{Step: 4, Frames: 5, Passed: true, Failed: true},
		{Step: 2, Frames: 5, Passed: true, Failed: true},
		{Step: 4, Frames: 1, Passed: true},
		{Step: 4, Frames: 4, Passed: true},
		{Step: 4, Frames: 5, Passed: true},
		{Step: 4, Frames: -1, Passed: true},
		{Step: 4, Frames: 6, Passed: true},
	} {
		if May(p) {
			t.Errorf("May(%v) = true", p)
		}
	}
}

// P16.1: May of all tests around the limits, against the list of those that may be.
func TestMayAround(t *testing.T) {
	n := 0
	for _, p := range testsAround() {
		if May(p) != mayBe(p) {
			t.Errorf("May(%v) = %v", p, May(p))
		}
		if May(p) {
			n++
		}
	}
	if n != len(courses()) {
		t.Errorf("%d tests may be", n)
	}
}

// P16.1: the unit of the step alone counts: whatever the other units, and the bits that are no unit's, say; the crew's bits but for the reset change nothing.
func TestNext(t *testing.T) {
	for _, c := range courses() {
		for units := range 256 {
			want := c.not
			if uint8(units)&unitOf(c.at.Step) > 0 {
				want = c.well
			}
			for crew := range 256 {
				if uint8(crew)&api.CrewReset > 0 {
					continue
				}
				if p := Next(c.at, uint8(units), uint8(crew)); p != want {
					t.Fatalf("Next(%v, %d, %d) = %v, not %v", c.at, units, crew, p, want)
				}
			}
		}
	}
}

// P16.1: the ends of a step: the last one passes, the fifth frame fails, one ahead of it leaves it going, and what is over stays.
func TestNextAtEnds(t *testing.T) {
	for _, c := range []struct {
		at    api.Pretest
		units uint8
		want  api.Pretest
	}{
		{api.Pretest{}, 1, api.Pretest{Step: 1}},
		{api.Pretest{}, 14, api.Pretest{Frames: 1}},
		{api.Pretest{}, 240, api.Pretest{Frames: 1}},
		{api.Pretest{Step: 1, Frames: 4}, 2, api.Pretest{Step: 2}},
		{api.Pretest{Step: 1, Frames: 4}, 13, api.Pretest{Step: 1, Frames: 5, Failed: true}},
		{api.Pretest{Step: 2, Frames: 3}, 11, api.Pretest{Step: 2, Frames: 4}},
		{api.Pretest{Step: 3}, 8, api.Pretest{Step: 4, Passed: true}},
		{api.Pretest{Step: 3, Frames: 4}, 8, api.Pretest{Step: 4, Passed: true}},
		{api.Pretest{Step: 3, Frames: 4}, 7, api.Pretest{Step: 3, Frames: 5, Failed: true}},
		{api.Pretest{Step: 4, Passed: true}, 0, api.Pretest{Step: 4, Passed: true}},
		{api.Pretest{Step: 3, Frames: 5, Failed: true}, 255, api.Pretest{Step: 3, Frames: 5, Failed: true}},
	} {
		if p := Next(c.at, c.units, 0); p != c.want {
			t.Errorf("Next(%v, %d) = %v, not %v", c.at, c.units, p, c.want)
		}
	}
}

// P16.1: the reset, with whatever else the crew does and whatever is well, makes a zero test, and no step of it in that frame.
func TestReset(t *testing.T) {
	for _, c := range courses() {
		for units := range 256 {
			for crew := range 256 {
				reset := uint8(crew) | api.CrewReset
				if p := Next(c.at, uint8(units), reset); p != (api.Pretest{}) {
					t.Fatalf("Next(%v, %d, %d) = %v", c.at, units, reset, p)
				}
			}
		}
	}
}

// P16.1: of a test that may not be: a zero one, whatever is well and whatever the crew does.
func TestNextOfWhatMayNotBe(t *testing.T) {
	for _, p := range testsAround() {
		if mayBe(p) {
			continue
		}
		for _, units := range []uint8{0, 1, 2, 4, 8, allUnits, 240, 255} {
			for _, crew := range []uint8{0, api.CrewArm, api.CrewToga, api.CrewOff, api.CrewReset, 16, 247, 255} {
				if q := Next(p, units, crew); q != (api.Pretest{}) {
					t.Fatalf("Next(%v, %d, %d) = %v", p, units, crew, q)
				}
			}
		}
	}
}

// P16.1: of no frames the test stays as it is, one that may not be too.
func TestRunOfNone(t *testing.T) {
	for _, p := range testsAround() {
		if q := Run(p, nil); q != p {
			t.Errorf("Run(%v, nil) = %v", p, q)
		}
		if q := Run(p, []uint8{}); q != p {
			t.Errorf("Run(%v, none) = %v", p, q)
		}
	}
}

// P16.1: of one frame Run is Next without the crew, of one that may not be too: it is zero, and goes on from there.
func TestRunOfOne(t *testing.T) {
	for _, c := range courses() {
		for units := range 256 {
			want := c.not
			if uint8(units)&unitOf(c.at.Step) > 0 {
				want = c.well
			}
			if p := Run(c.at, []uint8{uint8(units)}); p != want {
				t.Errorf("Run(%v, %d) = %v, not %v", c.at, units, p, want)
			}
		}
	}
	if p := Run(api.Pretest{Step: 4}, []uint8{allUnits}); p != (api.Pretest{}) {
		t.Errorf("Run of one that may not be = %v", p)
	}
	if p := Run(api.Pretest{Step: 4}, []uint8{allUnits, allUnits}); p != (api.Pretest{Step: 1}) {
		t.Errorf("Run of one that may not be, two frames = %v", p)
	}
}

// P16.1, P16.2: of all lists of four frames, and of many longer ones: passed just if each unit was well within 5 frames of its turn.
func TestRunByTurns(t *testing.T) {
	hold := func(units []uint8) {
		if p, want := Run(api.Pretest{}, units), byTurns(units); p != want {
			t.Fatalf("Run(zero, %v) = %v, not %v", units, p, want)
		}
	}
	for n := range 1 << 16 {
		hold([]uint8{uint8(n & 15), uint8(n >> 4 & 15), uint8(n >> 8 & 15), uint8(n >> 12)})
	}
	over := [2]int{}
	runs(func(units []uint8) {
		hold(units)
		switch p := byTurns(units); {
		case p.Passed:
			over[0]++
		case p.Failed:
			over[1]++
		}
	})
	if over[0] < 1000 || over[1] < 1000 {
		t.Errorf("of the lists only %d passed and %d failed", over[0], over[1])
	}
}

// P16.1: frames, and frames behind them, are as all of them, from each test that may be.
func TestRunInParts(t *testing.T) {
	all := courses()
	i := 0
	runs(func(units []uint8) {
		i++
		from := all[i%len(all)].at
		whole := Run(from, units)
		for at := 0; at <= len(units); at += 3 {
			if p := Run(Run(from, units[:at]), units[at:]); p != whole {
				t.Fatalf("Run(%v, %v) at %d = %v, not %v", from, units, at, p, whole)
			}
		}
	})
}

// P16.1: what was handed in stays as it was, the room behind its end too.
func TestRunLeavesUnits(t *testing.T) {
	room := []uint8{1, 0, 2, 255, 0, 0, 4, 8, 7, 9}
	was := slices.Clone(room)
	for n := range len(room) + 1 {
		Run(api.Pretest{}, room[:n])
		if !slices.Equal(room, was) {
			t.Fatalf("Run of %d changed what was handed in: %v", n, room)
		}
	}
}

// reached are the tests that those come to by one frame, whatever is well in it, without the crew.
func reached(from map[api.Pretest]int) map[api.Pretest]int {
	to := map[api.Pretest]int{}
	for p := range from {
		for units := range 256 {
			to[Next(p, uint8(units), 0)]++
		}
	}
	return to
}

// P16.2: over in at most 20 frames, whichever they are, and it stays so; not in fewer, if it waits as long as it may.
func TestOverInTime(t *testing.T) {
	now := map[api.Pretest]int{{}: 1}
	for frame := 1; frame <= longest+10; frame++ {
		now = reached(now)
		going := 0
		for p := range now {
			if !May(p) {
				t.Errorf("frame %d: %v may not be", frame, p)
			}
			if !isOver(p) {
				going++
			}
		}
		if (going > 0) != (frame < longest) {
			t.Errorf("frame %d: %d tests are still going", frame, going)
		}
		if _, is := now[passed]; is != (frame >= 4) {
			t.Errorf("frame %d: passed %v", frame, is)
		}
	}
	// Four that failed and the one that passed are all there is at last.
	if len(now) != 5 {
		t.Errorf("at last there are %v", now)
	}
}

// P16.2: from each test that may be it is over in at most 20 frames, if nothing is well, and if all is.
func TestOverFromEach(t *testing.T) {
	for _, c := range courses() {
		for _, well := range []uint8{0, allUnits} {
			units := slices.Repeat([]uint8{well}, longest)
			if p := Run(c.at, units); !isOver(p) {
				t.Errorf("Run(%v, %d twenty times) = %v", c.at, well, p)
			}
		}
	}
}

// P16.2: with all units well it is passed in 4 frames, not ahead, and stays passed.
func TestAllWell(t *testing.T) {
	for n := range 30 {
		want := passed
		if n < 4 {
			want = waiting(n, 0)
		}
		for _, well := range []uint8{allUnits, 255} {
			if p := Run(api.Pretest{}, slices.Repeat([]uint8{well}, n)); p != want {
				t.Errorf("Run(zero, %d %d times) = %v", well, n, p)
			}
		}
	}
}

// waits are the frames of a test whose steps each wait for so many frames in vain.
func waits(many [4]int) []uint8 {
	var units []uint8
	for step, n := range many {
		unit := unitOf(step)
		units = append(units, slices.Repeat([]uint8{allUnits &^ unit}, n)...)
		units = append(units, unit)
	}
	return units
}

// P16.2: each unit at each frame of its turn, from the first to the fifth, and one too late.
func TestEachTurn(t *testing.T) {
	for n := range 6 * 6 * 6 * 6 {
		many := [4]int{n % 6, n / 6 % 6, n / 36 % 6, n / 216}
		want := passed
		if step := slices.Index(many[:], 5); step >= 0 {
			want = failed(step)
		}
		if p := Run(api.Pretest{}, waits(many)); p != want {
			t.Errorf("waits of %v come to %v, not %v", many, p, want)
		}
	}
	if n := len(waits([4]int{4, 4, 4, 4})); n != longest {
		t.Errorf("the longest test took %d frames", n)
	}
}

// P16.1: one that may not be takes a frame to become zero: the longest test begins behind it.
func TestRunOfWhatMayNotBe(t *testing.T) {
	for _, p := range testsAround() {
		if mayBe(p) {
			continue
		}
		units := append([]uint8{allUnits}, waits([4]int{4, 4, 4, 4})...)
		if q := Run(p, units[:longest]); q != waiting(3, 4) {
			t.Errorf("Run(%v, all but one) = %v", p, q)
		}
		if q := Run(p, units); q != passed {
			t.Errorf("Run(%v, all) = %v", p, q)
		}
	}
}

// P16.2: a unit that was well ahead of its turn alone fails the test: no step looks back.
func TestTooEarly(t *testing.T) {
	for _, c := range []struct {
		units []uint8
		want  api.Pretest
	}{
		{[]uint8{8, 4, 2, 1}, waiting(1, 0)},
		{[]uint8{3, 0, 0, 0, 0, 0}, failed(1)},
		{[]uint8{15, 2, 0, 0, 0, 0, 0}, failed(2)},
		{[]uint8{15, 15, 12, 0, 0, 0, 0, 0}, failed(3)},
		{[]uint8{14, 14, 14, 14, 14, 15}, failed(0)},
		{[]uint8{14, 14, 14, 14, 15, 15, 15, 15}, passed},
	} {
		if p := Run(api.Pretest{}, c.units); p != c.want {
			t.Errorf("Run(zero, %v) = %v, not %v", c.units, p, c.want)
		}
	}
}

// P16.1, P16.2: the chapter's table.
func TestExamples(t *testing.T) {
	if p := Run(api.Pretest{}, []uint8{15, 15, 15, 15}); !p.Passed {
		t.Errorf("15 four times: %v", p)
	}
	p := Run(api.Pretest{}, []uint8{1, 1, 1, 1, 1, 1})
	if p.Step != 1 || !p.Failed {
		t.Errorf("1 six times: %v", p)
	}
	if p = Next(p, 15, api.CrewReset); p.Step != 0 || p.Failed {
		t.Errorf("the reset: %v", p)
	}
}
