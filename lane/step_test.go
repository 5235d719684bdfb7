package lane

import (
	"bytes"
	"math"
	"slices"
	"testing"

	"flarepath/api"
	"flarepath/band"
	"flarepath/check"
	"flarepath/link"
	"flarepath/mode"
	"flarepath/out"
	"flarepath/port"
)

// told is a message to a lane of the frame 41, unlike others, with what it tells of whom it heard.
func told(from uint8, heard ...uint8) api.Message {
	return api.Message{Lane: from, Frame: 41, Heard: [3]uint8(heard), Mode: 2, Level: 1, Engage: true, Cmd: api.Command{Side: -7, Sink: 18, Turn: 3}}
}

// unread are bytes that no message has.
func unread() [][]byte {
	good := put(told(0, 0x12, 0x34, 0x56))
	changed := func(place int) []byte {
		b := slices.Clone(good)
		b[place]++
		return b
	}
	with := func(change func(*api.Message)) []byte {
		m := told(0, 0x12, 0x34, 0x56)
		change(&m)
		return laid(m, 1)
	}
	all := [][]byte{
		nil, {}, {165}, good[:1], good[:36], good[:39], append(slices.Clone(good), 0), append(slices.Clone(good), good...), make([]byte, 40), bytes.Repeat([]byte{255}, 40),
		laid(told(0, 1, 2, 3), 2), laid(told(0, 1, 2, 3), 255), slices.Concat([]byte{164}, good[1:]),
		with(func(m *api.Message) { m.Lane = 3 }), with(func(m *api.Message) { m.Lane = 255 }), with(func(m *api.Message) { m.Mode = 7 }), with(func(m *api.Message) { m.Level = 3 }),
		with(func(m *api.Message) { m.Cmd.Side = api.MaxFixed + 1 }), with(func(m *api.Message) { m.Cmd.Turn = -api.MaxFixed - 1 }),
	}
	for place := range good {
		all = append(all, changed(place))
	}
	return all
}

// heardBy asks Step in a lane that heard the others unlike, and whether Frame and the links went on by these messages alone.
func heardBy(t *testing.T, own int, mode uint8, came [][]byte, read ...api.Message) {
	t.Helper()
	l := unlike(own, mode)
	behind, _ := step(t, l, high(0), came...)
	if want := link.Step(l.Links, read); behind.Frame != 41 || behind.Links != want {
		t.Fatalf("behind %v: %d, %x, not %x", came, behind.Frame, behind.Links, want)
	}
}

// P26.1: Frame is one more, and the links go on by the messages that may be read: none, some, two of one lane, ones of a lane itself, of other frames, ones that may not be read among them.
func TestStepHears(t *testing.T) {
	zero, one, two := told(0, 0x12, 0x34, 0x56), told(1, 0x9a, 0xbc, 0xde), told(2, 0x31, 0x52, 0x73)
	again, late, early := told(0, 0x80, 0x41, 0x88), two, zero
	late.Frame, early.Frame = 40, 42
	bad := unread()
	for own := range 3 {
		for mode := range uint8(7) {
			hears := func(came [][]byte, read ...api.Message) {
				t.Helper()
				heardBy(t, own, mode, came, read...)
			}
			hears(nil)
			hears([][]byte{})
			hears(bad)
			for _, m := range []api.Message{zero, one, two, again, late, early} {
				hears([][]byte{put(m)}, m)
				hears([][]byte{put(m), put(m)}, m, m)
				for _, n := range []api.Message{zero, one, two, again, late, early} {
					hears([][]byte{put(m), put(n)}, m, n)
					hears([][]byte{bad[0], put(m), bad[5], put(n), bad[9]}, m, n)
				}
			}
			hears([][]byte{put(zero), put(one), put(two), put(again), put(late), put(early)}, zero, one, two, again, late, early)
			hears(slices.Concat(bad, [][]byte{put(zero)}), zero)
			hears(slices.Concat(bad, bad, [][]byte{put(two)}, bad, [][]byte{put(one), put(again)}), two, one, again)
			for _, b := range bad {
				hears([][]byte{b})
				hears([][]byte{b, put(two), put(zero)}, two, zero)
				hears([][]byte{put(two), b, put(zero)}, two, zero)
				hears([][]byte{put(two), put(zero), b}, two, zero)
			}
		}
	}
}

// P26.1: what comes of it bit by bit: all one up, who was heard in this frame, and what it told, one up.
func TestStepHearsBits(t *testing.T) {
	l := unlike(1, 0)
	behind, _ := step(t, l, high(0))
	want := [3][3]uint32{
		{0x00000022, 0x22468ac0, 0x41e1e1e0},
		{0x6b4b4b48, 0x80000066, 0xb97530ec},
		{0xcf13579c, 0xfffffffe, 0x800000a0},
	}
	if behind.Links != (api.Links{Own: 1, Frame: 41, Heard: want}) {
		t.Errorf("behind none: %x", behind.Links)
	}
	behind, _ = step(t, l, high(0), put(told(0, 0xff, 0x01, 0x90)), put(told(1, 0xff, 0xff, 0xff)))
	want[1][0] |= 1
	want[0][1] |= 0x002
	want[0][2] |= 0x120
	if behind.Links != (api.Links{Own: 1, Frame: 41, Heard: want}) {
		t.Errorf("behind one: %x", behind.Links)
	}
}

// P26.1: what may not be read is as if it had not come, in each frame, the first one and the last one too.
func TestStepHearsNothing(t *testing.T) {
	for _, n := range []uint32{0, 1, 40, 164, 255, 1 << 31, ones - 1, ones} {
		for own := range 3 {
			l := at(unlike(own, 0), n)
			want, wantShow := step(t, l, high(0))
			if got, show := step(t, l, high(0), unread()[:20]...); got != want || show != wantShow {
				t.Errorf("behind the frame %d: %v, %v, not %v, %v", n, got, show, want, wantShow)
			}
		}
	}
}

// P26.1: of many messages each one counts, however many do not.
func TestStepHearsMany(t *testing.T) {
	var came [][]byte
	for n := range 500 {
		m := told(0, 0, 0, 0)
		m.Frame = uint32(1000 + n)
		came = append(came, put(m), put(m)[:n%40])
	}
	last := told(2, 0x80, 0x40, 0)
	heardBy(t, 1, 0, append(came, put(last)), last)
	heardBy(t, 1, 0, slices.Concat([][]byte{put(last)}, came), last)
	heardBy(t, 0, 2, slices.Concat(came, [][]byte{put(last)}, came), last)
}

// P26.1: whatever the frame's number is.
func TestStepFrames(t *testing.T) {
	for _, n := range []uint32{0, 1, 2, 3, 127, 128, 255, 256, 1<<16 - 1, 1 << 16, api.MaxFrames - 1, api.MaxFrames, api.MaxFrames + 1, 1<<31 - 2, 1<<31 - 1, 1 << 31, ones - 2, ones - 1} {
		for mode := range uint8(7) {
			l := at(ready(mode), n)
			m := told(0, 1, 2, 3)
			m.Frame = n + 1
			behind, _ := step(t, l, high(0), put(m))
			if behind.Frame != n+1 || behind.Links.Frame != n+1 || behind.Links.Heard[1][0] != ones || behind.Links.Heard[1][2] != ones-1 {
				t.Errorf("behind the frame %d: %d, %x", n, behind.Frame, behind.Links)
			}
			wantTell(t, l, api.Message{Lane: 1, Frame: n + 1, Heard: [3]uint8{255, 255, 255}, Mode: mode, Level: 2, Engage: mode >= 2})
		}
	}
}

// way is a way for a source to say something, and whether it is bad then.
type way struct {
	name string
	say  func(signal, source int, value int64) uint32
	bad  bool
}

// apart is by how much two sources of a signal may differ.
var apart = [api.Signals]int64{100, 100, 100, 2000}

func ways() []way {
	of := func(change func(uint32) uint32) func(int, int, int64) uint32 {
		return func(signal, source int, value int64) uint32 { return change(word(signal, source, value)) }
	}
	return []way{
		{"good", word, false},
		{"as far as may be", func(i, k int, v int64) uint32 { return word(i, k, v+apart[i]) }, false},
		{"as far as may be below", func(i, k int, v int64) uint32 { return word(i, k, v-apart[i]) }, false},
		{"too far", func(i, k int, v int64) uint32 { return word(i, k, v+apart[i]+1) }, true},
		{"too far below", func(i, k int, v int64) uint32 { return word(i, k, v-apart[i]-1) }, true},
		{"silent", func(int, int, int64) uint32 { return 0 }, true},
		{"broken", of(port.Broken), true},
		{"failed", of(port.Failed), true},
		{"another source's", func(i, k int, v int64) uint32 { return word(i, (k+1)%3, v) }, true},
		{"another signal's", func(i, k int, v int64) uint32 { return word((i+1)%4, k, v) }, true},
		{"all ones", func(int, int, int64) uint32 { return ones }, true},
	}
}

// P26.1: each source's health goes on by what all signals come to, in every mode; the others stay well.
func TestStepHealth(t *testing.T) {
	said := [api.Signals]int64{10, -10, 9000, 500}
	behindBad := map[api.Health]api.Health{
		{}: {Bad: 1}, {Bad: 1}: {Bad: 2}, {Bad: 2}: {Bad: 3}, {Bad: 3}: {Bad: 4, Out: true}, {Good: 7}: {Bad: 1},
		{Out: true, Bad: 4}: {Out: true, Bad: 5}, {Out: true, Good: 19}: {Out: true, Bad: 1}, {Out: true, Bad: api.MaxCount}: {Out: true, Bad: api.MaxCount},
	}
	behindGood := map[api.Health]api.Health{
		{}: {Good: 1}, {Bad: 1}: {Good: 1}, {Bad: 2}: {Good: 1}, {Bad: 3}: {Good: 1}, {Good: 7}: {Good: 8}, {Good: api.MaxCount}: {Good: api.MaxCount},
		{Out: true, Bad: 4}: {Out: true, Good: 1}, {Out: true, Good: 18}: {Out: true, Good: 19},
	}
	for mode := range uint8(7) {
		for i := range api.Signals {
			for k := range api.Sources {
				for _, w := range ways() {
					behind := behindGood
					if w.bad {
						behind = behindBad
					}
					for was, want := range behind {
						l := ready(mode)
						l.Health[i][k] = was
						x := frame(0, said[:]...)
						x.Words[i][k] = w.say(i, k, said[i])
						all := healthsOf(api.Health{Good: 1})
						all[i][k] = want
						if got, _ := step(t, l, x); got.Health != all {
							t.Fatalf("mode %d, %d of %d, %s, from %v: %v", mode, k, i, w.name, was, got.Health)
						}
					}
				}
			}
		}
	}
}

// healthsOf tells a health for each source.
func healthsOf(h api.Health) healths {
	var all healths
	for i := range all {
		for k := range all[i] {
			all[i][k] = h
		}
	}
	return all
}

// P26.1: a source that is out comes back in the mode Off alone, behind Again good frames: the mode ahead of the frame counts, whatever the one behind it is.
func TestStepBack(t *testing.T) {
	for mode := range uint8(7) {
		for i := range api.Signals {
			for k := range api.Sources {
				for _, crew := range []uint8{0, api.CrewArm, api.CrewToga, api.CrewOff, api.CrewReset, 15} {
					for good := range 25 {
						l := ready(mode)
						l.Health[i][k] = api.Health{Out: true, Good: good}
						want := api.Health{Out: true, Good: good + 1}
						if mode == 0 && good >= 19 {
							want = api.Health{}
						}
						if got, _ := step(t, l, high(crew)); got.Health[i][k] != want {
							t.Fatalf("mode %d, %d of %d, %d good ones, crew %d: %v", mode, k, i, good, crew, got.Health[i][k])
						}
					}
				}
			}
		}
	}
}

// P26.1: one source's two others that differ leave their signal without a value: all of them are bad.
func TestStepHealthOfTwo(t *testing.T) {
	for mode := range uint8(7) {
		for i := range api.Signals {
			for k := range api.Sources {
				l := ready(mode)
				l.Health[i][k] = api.Health{Out: true, Bad: 9}
				x := high(0)
				x.Words[i][(k+1)%3] = word(i, (k+1)%3, 9000)
				x.Words[i][(k+2)%3] = word(i, (k+2)%3, 9000+apart[i]+1)
				x.Words[i][k] = word(i, k, 9000)
				want := [3]api.Health{{Bad: 1}, {Bad: 1}, {Bad: 1}}
				want[k] = api.Health{Out: true, Bad: 10}
				if got, _ := step(t, l, x); got.Health[i] != want {
					t.Fatalf("mode %d, signal %d: %v", mode, i, got.Health[i])
				}
			}
		}
	}
}

// tests are all that may be.
func tests() []api.Pretest {
	all := []api.Pretest{passed}
	for step := range 4 {
		for frames := range 6 {
			all = append(all, api.Pretest{Step: step, Frames: frames, Failed: frames == 5})
		}
	}
	return all
}

// P26.1: the test goes on in the mode Off alone, by each of the units' bits, and the crew resets it there; in every other mode it is as it was.
func TestStepTest(t *testing.T) {
	for mode := range uint8(7) {
		for _, was := range tests() {
			for well := range uint8(16) {
				for _, crew := range []uint8{0, 1, 2, 4, 7, 8, 9, 16, 247, 255} {
					l := ready(mode)
					l.Test = was
					want := was
					if mode == 0 {
						want = check.Next(was, well, crew)
					}
					if got, _ := step(t, l, units(high(crew), well|crew&0xf0)); got.Test != want {
						t.Fatalf("mode %d, units %d, crew %d, from %v: %v", mode, well, crew, was, got.Test)
					}
				}
			}
		}
	}
}

// P26.1: some of the test's ways, told one by one.
func TestStepTestByHand(t *testing.T) {
	for _, example := range []struct {
		mode        uint8
		was         api.Pretest
		units, crew uint8
		want        api.Pretest
	}{
		{0, api.Pretest{}, 1, 0, api.Pretest{Step: 1}},
		{0, api.Pretest{}, 14, 0, api.Pretest{Frames: 1}},
		{0, api.Pretest{Step: 1}, 2, 1, api.Pretest{Step: 2}},
		{0, api.Pretest{Step: 2, Frames: 3}, 251, 0, api.Pretest{Step: 2, Frames: 4}},
		{0, api.Pretest{Step: 2, Frames: 4}, 251, 0, api.Pretest{Step: 2, Frames: 5, Failed: true}},
		{0, api.Pretest{Step: 3, Frames: 4}, 8, 0, passed},
		{0, api.Pretest{Step: 3, Frames: 5, Failed: true}, 15, 0, api.Pretest{Step: 3, Frames: 5, Failed: true}},
		{0, api.Pretest{Step: 3, Frames: 5, Failed: true}, 15, 8, api.Pretest{}},
		{0, passed, 0, 0, passed},
		{0, passed, 15, 9, api.Pretest{}},
		{1, passed, 0, 8, passed},
		{6, passed, 15, 8, passed},
		{2, api.Pretest{Step: 1}, 15, 0, api.Pretest{Step: 1}},
		{5, api.Pretest{Step: 3, Frames: 4}, 0, 0, api.Pretest{Step: 3, Frames: 4}},
		{6, api.Pretest{Step: 3, Frames: 5, Failed: true}, 15, 8, api.Pretest{Step: 3, Frames: 5, Failed: true}},
	} {
		l := ready(example.mode)
		l.Test = example.was
		if got, _ := step(t, l, units(high(example.crew), example.units)); got.Test != example.want {
			t.Errorf("%v: %v", example, got.Test)
		}
	}
}

// levelByWords tells the level by how many sources each signal has, how many lanes there are, which units are well, and the test.
func levelByWords(sources [api.Signals]int, lanes int, well uint8, isPassed bool) uint8 {
	fewest := min(slices.Min(sources[:]), lanes)
	switch {
	case !isPassed || fewest < 2 || well&3 == 0 || well&4 == 0:
		return 0
	case fewest == 3 && well&15 == 15:
		return 2
	}
	return 1
}

// P26.1: the level that there is hangs on how many sources of each signal are in, on the units of this frame, on the lanes that are alive, and on the test.
func TestStepLevel(t *testing.T) {
	x := high(0)
	for in := range 256 {
		sources := [4]int{in & 3, in >> 2 & 3, in >> 4 & 3, in >> 6}
		l := ready(0)
		for i, n := range sources {
			for k := range 3 - n {
				l.Health[i][(i+in+k)%3] = api.Health{Out: true, Bad: 4}
			}
		}
		for lanes := 1; lanes <= 3; lanes++ {
			l.Links = ready(0).Links
			for dead := range 3 - lanes {
				l = unheard(l, 2-2*dead, 20)
			}
			for well := range uint8(32) {
				for _, isPassed := range []bool{true, false} {
					l.Test = api.Pretest{Step: 0}
					if isPassed {
						l.Test = passed
					}
					want := levelByWords(sources, lanes, well, isPassed)
					behind, show := step(t, l, units(x, well))
					if behind.Cap != (api.Cap{Level: want, Most: want}) || show.Level != want {
						t.Fatalf("%v, %d lanes, units %d, passed %v: %v, %v, not %d", sources, lanes, well, isPassed, behind.Cap, show, want)
					}
				}
			}
		}
	}
}

// P26.1: the health of this frame counts: a source that goes out in it is out for the level, one that comes back in it is in; one that is bad for the third time is in still.
func TestStepLevelOfHealth(t *testing.T) {
	for mode := range uint8(7) {
		for i := range api.Signals {
			for k := range api.Sources {
				for bad, want := range []uint8{2, 2, 2, 1} {
					l := ready(mode)
					l.Health[i][k] = api.Health{Bad: bad}
					x := high(0)
					x.Words[i][k] = 0
					if got, show := step(t, l, x); got.Cap.Level != want || show.Level != want {
						t.Errorf("mode %d, %d of %d, bad for %d: %v, %v", mode, k, i, bad, got.Cap, show)
					}
				}
				l := ready(mode)
				l.Health[i][k] = api.Health{Out: true, Good: 19}
				want := uint8(1)
				if mode == 0 {
					want = 2
				}
				if got, show := step(t, l, high(0)); got.Cap.Level != want || show.Level != want {
					t.Errorf("mode %d, %d of %d, back: %v, %v", mode, k, i, got.Cap, show)
				}
			}
		}
	}
}

// P26.1: who is alive behind this frame counts: a lane that dies in it is dead for the level, one that comes back in it is alive.
func TestStepLevelOfLanes(t *testing.T) {
	for mode := range uint8(7) {
		for own := range 3 {
			for _, k := range []int{(own + 1) % 3, (own + 2) % 3} {
				l := ready(mode)
				l.Links.Own = own
				for n, want := range map[int]uint8{0: 2, 3: 2, 10: 2, 11: 1, 12: 1, 31: 1} {
					if got, show := step(t, unheard(l, k, n), high(0)); got.Cap.Level != want || show.Level != want {
						t.Errorf("mode %d, lane %d, %d unheard for %d: %v, %v", mode, own, k, n, got.Cap, show)
					}
				}
				other := uint8(3 - own - k)
				for heard, want := range map[uint8]uint8{0: 1, 1: 1, 4: 1, 8: 2, 16: 2, 128: 2} {
					m := told(other, 0, 0, 0)
					m.Heard[k] = heard
					if got, show := step(t, unheard(l, k, 20), high(0), put(m)); got.Cap.Level != want || show.Level != want {
						t.Errorf("mode %d, lane %d, %d told as heard in %d: %v, %v", mode, own, k, heard, got.Cap, show)
					}
				}
				none := unheard(unheard(l, k, 20), int(other), 20)
				none.Links.Heard[own][own] = 0
				if got, show := step(t, none, high(0), put(told(uint8(k), 255, 255, 255))[:39]); got.Cap.Level != 0 || show.Level != 0 {
					t.Errorf("mode %d, lane %d alone: %v, %v", mode, own, got.Cap, show)
				}
			}
		}
	}
}

// P26.1: the test as it is behind this frame counts: the frame in which it is passed has a level, the one in which the crew resets it has none.
func TestStepLevelOfTest(t *testing.T) {
	for _, example := range []struct {
		mode        uint8
		was         api.Pretest
		units, crew uint8
		want        uint8
	}{
		{0, api.Pretest{Step: 3}, 15, 0, 2},
		{0, api.Pretest{Step: 3, Frames: 4}, 14, 0, 1},
		{0, api.Pretest{Step: 3}, 7, 0, 0},
		{0, api.Pretest{Step: 2}, 15, 0, 0},
		{0, passed, 15, 0, 2},
		{0, passed, 15, 8, 0},
		{1, passed, 15, 8, 2},
		{1, api.Pretest{Step: 3}, 15, 0, 0},
		{2, api.Pretest{Step: 3}, 15, 0, 0},
		{6, api.Pretest{Step: 3}, 15, 8, 0},
		{6, passed, 7, 8, 1},
	} {
		l := ready(example.mode)
		l.Test = example.was
		if got, _ := step(t, l, units(high(example.crew), example.units)); got.Cap.Level != example.want {
			t.Errorf("%v: %v", example, got.Cap)
		}
	}
}

// heights are frames of every band, and whether that is below the alert height.
func heights() []struct {
	x   api.Input
	low bool
} {
	of := func(h int64) api.Input { return frame(0, 0, 0, h, 0) }
	return []struct {
		x   api.Input
		low bool
	}{
		{of(20000), false}, {of(6097), false}, {of(6096), true}, {of(6095), true}, {of(1525), true}, {of(1524), true}, {of(301), true}, {of(300), true}, {of(0), true}, {of(-1000), true},
		{without(of(9000), api.Height), false}, {down(of(9000)), true}, {down(without(of(9000), api.Height)), true}, {down(of(0)), true},
	}
}

// P26.1: the capability goes on with the mode ahead of the frame, by the level that there is; low by this frame's band.
func TestStepCap(t *testing.T) {
	for mode := range uint8(7) {
		for _, was := range caps() {
			for _, h := range heights() {
				for well, best := range map[uint8]uint8{15: 2, 14: 2 - 1, 7: 1, 5: 1, 11: 0, 4: 0, 0: 0} {
					for _, crew := range []uint8{0, api.CrewArm, api.CrewToga, api.CrewOff} {
						l := ready(mode)
						l.Cap = was
						want := was
						switch {
						case mode < 2 || mode > 5:
							want = api.Cap{Level: best, Most: best}
						case !was.Frozen:
							want.Level = min(was.Level, best)
							want.Frozen = h.low
						}
						x := units(h.x, well)
						x.Crew = crew
						if got, show := step(t, l, x); got.Cap != want || show.Level != want.Level {
							t.Fatalf("mode %d, from %v, best %d, %v: %v, %v", mode, was, best, x, got.Cap, show)
						}
					}
				}
			}
		}
	}
}

// P26.1: the counts go on where the mode ahead of the frame is approaching, whatever the one behind it is, and are 0 else.
func TestStepWide(t *testing.T) {
	beams := map[int64]bool{0: false, 300: false, 301: false, 500: false, -500: false, 501: true, -501: true, 90000: true}
	next := map[int]int{0: 1, 1: 2, 2: 3, 3: 4, 4: 5, 5: 6, api.MaxCount - 1: api.MaxCount, api.MaxCount: api.MaxCount, -1: 1, api.MaxCount + 1: 1, math.MinInt: 1, math.MaxInt: 1}
	for mode := range uint8(7) {
		for loc, isLoc := range beams {
			for glide, isGlide := range beams {
				for was, behind := range next {
					for _, crew := range []uint8{0, api.CrewToga, api.CrewOff} {
						l := ready(mode)
						l.Wide = [2]int{was, 3}
						var want [2]int
						if mode >= 2 && mode <= 5 {
							if isLoc {
								want[0] = behind
							}
							if isGlide {
								want[1] = 4
							}
						}
						if got, _ := step(t, l, frame(crew, loc, glide, 9000, 0)); got.Wide != want {
							t.Fatalf("mode %d, Loc %d, Glide %d, from %v: %v, not %v", mode, loc, glide, l.Wide, got.Wide, want)
						}
					}
				}
			}
		}
	}
}

// P26.1: a signal that is not there is not wide: its count is 0, and so is that of one of which two sources of three are wide apart.
func TestStepWideWithout(t *testing.T) {
	for mode := range uint8(7) {
		for i := range 2 {
			l := ready(mode)
			l.Wide = [2]int{3, 3}
			want := [2]int{4, 4}
			want[i] = 0
			if mode < 2 || mode > 5 {
				want = [2]int{}
			}
			if got, _ := step(t, l, without(frame(0, 600, 600, 9000, 0), i)); got.Wide != want {
				t.Errorf("mode %d, without %d: %v", mode, i, got.Wide)
			}
		}
	}
}

// P26.1: the mode goes on by this frame's signals, what the crew does, the wheels, and the capability's level behind the frame.
func TestStepMode(t *testing.T) {
	beams := [][2]int64{{0, 0}, {300, -300}, {301, 0}, {0, -301}, {900, 900}}
	for was := range uint8(7) {
		for _, h := range heights() {
			for _, on := range beams {
				for crew := range uint8(16) {
					for well, best := range map[uint8]uint8{15: 2, 7: 1, 3: 0} {
						l := ready(was)
						x := h.x
						for k := range 3 {
							x.Words[0][k], x.Words[1][k] = word(0, k, on[0]), word(1, k, on[1])
						}
						x.Crew, x.Units = crew, well
						if was == 0 && crew&8 != 0 {
							best = 0
						}
						b := band.Of(api.Voted{}, x.Wheel)
						if x.Words[2] != ([3]uint32{}) {
							said, _ := port.Read(2, 0, x.Words[2][0])
							b = band.Of(api.Voted{Is: true, Value: said.Value, Of: 3}, x.Wheel)
						}
						isOn := func(n int64) bool { return n >= -300 && n <= 300 }
						want := mode.Next(l.State, api.Sense{Band: b, Loc: isOn(on[0]), Glide: isOn(on[1]), Wheel: x.Wheel, Level: best, Crew: crew})
						if got, show := step(t, l, x); got.State != want || show.Mode != want.Mode || show.Toga != want.Toga {
							t.Fatalf("mode %d, crew %d, %v: %v, %v, not %v", was, crew, x, got.State, show, want)
						}
					}
				}
			}
		}
	}
}

// P26.1: the ways of the modes, told one by one.
func TestStepModeByHand(t *testing.T) {
	for _, example := range []struct {
		was  uint8
		x    api.Input
		want uint8
	}{
		{0, high(0), 0}, {0, high(api.CrewArm), 1}, {0, frame(api.CrewArm, 0, 0, 6096, 0), 0}, {0, units(high(api.CrewArm), 3), 0}, {0, high(api.CrewArm | api.CrewReset), 0},
		{1, high(0), 2}, {1, frame(0, 301, 0, 9000, 0), 1}, {1, frame(0, 0, -301, 9000, 0), 1}, {1, units(high(0), 3), 0}, {1, high(api.CrewOff), 0}, {1, high(api.CrewToga), 2},
		{2, high(0), 2}, {2, frame(0, 0, 0, 1525, 0), 2}, {2, frame(0, 0, 0, 1524, 0), 3}, {2, frame(0, 0, 0, 300, 0), 3}, {2, down(high(0)), 3}, {2, high(api.CrewToga), 6}, {2, high(api.CrewToga | api.CrewOff), 0}, {2, units(high(0), 3), 0}, {2, units(high(api.CrewToga), 3), 6},
		{3, frame(0, 0, 0, 301, 0), 3}, {3, frame(0, 0, 0, 300, 0), 4}, {3, frame(api.CrewToga, 0, 0, 300, 0), 6}, {3, units(frame(0, 0, 0, 300, 0), 3), 0},
		{4, frame(0, 0, 0, 0, 0), 4}, {4, down(frame(0, 0, 0, 0, 0)), 5}, {4, down(frame(api.CrewToga, 0, 0, 0, 0)), 6}, {4, units(down(high(0)), 3), 0},
		{5, down(high(0)), 5}, {5, high(api.CrewToga), 5}, {5, down(high(api.CrewOff)), 0}, {5, units(down(high(0)), 3), 0},
		{6, high(0), 6}, {6, high(api.CrewReset), 0}, {6, frame(api.CrewReset, 0, 0, 6096, 0), 6}, {6, high(api.CrewOff), 0}, {6, units(high(0), 0), 6}, {6, high(api.CrewArm), 6},
	} {
		want := state(example.want)
		if got, show := step(t, ready(example.was), example.x); got.State != want || show.Mode != want.Mode || show.Toga != want.Toga {
			t.Errorf("%v: %v, %v", example, got.State, show)
		}
	}
}

// P26.1: the mode goes by the capability's level behind the frame: neither by the one ahead of it, nor by the level that there is.
func TestStepModeOfLevel(t *testing.T) {
	for mode := uint8(2); mode <= 5; mode++ {
		for _, example := range []struct {
			was   api.Cap
			units uint8
			off   bool
		}{
			{api.Cap{Level: 2, Most: 2}, 15, false}, {api.Cap{Level: 2, Most: 2}, 7, false}, {api.Cap{Level: 2, Most: 2}, 3, true},
			{api.Cap{Most: 2}, 15, true}, {api.Cap{}, 15, true}, {api.Cap{Frozen: true, Most: 2}, 15, true},
			{api.Cap{Level: 1, Frozen: true, Most: 2}, 0, false}, {api.Cap{Level: 2, Frozen: true, Most: 2}, 0, false}, {api.Cap{Level: 1, Most: 1}, 0, true},
		} {
			l := ready(mode)
			l.Cap = example.was
			got, show := step(t, l, units(down(high(0)), example.units))
			if isOff := got.State.Mode == 0; isOff != example.off || (show.Warn == api.WarnOff) != example.off {
				t.Errorf("mode %d, %v: %v, %v", mode, example, got.State, show)
			}
		}
	}
	for _, mode := range []uint8{0, 1} {
		l := ready(mode)
		l.Cap = api.Cap{}
		if got, _ := step(t, l, high(api.CrewArm)); got.State.Mode != mode+1 {
			t.Errorf("mode %d: %v", mode, got.State)
		}
	}
}

// P26.1: the commands are those of the mode behind the frame, from the command ahead of it, by this frame's signals.
func TestStepCommands(t *testing.T) {
	lasts := []api.Command{{}, {Sink: 18}, {Side: -20, Sink: 24, Turn: 500}, {Side: 20, Sink: -20, Turn: -500}, {Side: 7, Sink: -3, Turn: 44}}
	said := [][4]int64{{0, 0, 9000, 0}, {96, -20, 9000, 40}, {-80, 400, 1524, -4000}, {300, -300, 762, 900}, {-5, 8, 200, 3}}
	for was := range uint8(7) {
		for _, last := range lasts {
			for _, v := range said {
				for crew := range uint8(16) {
					for _, wheel := range []bool{false, true} {
						l := ready(was)
						l.Cmd = last
						x := frame(crew, v[:]...)
						x.Wheel = wheel
						var voted signals
						for i, n := range v {
							voted[i] = api.Voted{Is: true, Value: n, Of: 3}
						}
						got, _ := step(t, l, x)
						if want := out.Guide(got.State.Mode, voted, last); got.Cmd != want {
							t.Fatalf("mode %d, %v, from %v: %v, not %v", was, x, last, got.Cmd, want)
						}
					}
				}
			}
		}
	}
}

// P26.1: some commands, told one by one: in the frame in which the mode turns they are those of the mode behind it already.
func TestStepCommandsByHand(t *testing.T) {
	for _, example := range []struct {
		was  uint8
		x    api.Input
		last api.Command
		want api.Command
	}{
		{0, frame(0, 96, 0, 9000, 40), api.Command{Side: 3, Sink: 18, Turn: 9}, api.Command{Sink: 4}},
		{0, frame(api.CrewArm, 96, 0, 9000, 40), api.Command{}, api.Command{}},
		{1, frame(0, 100, -20, 9000, 40), api.Command{}, api.Command{Side: -8, Sink: 14}},
		{1, frame(0, 301, -20, 9000, 40), api.Command{}, api.Command{}},
		{2, frame(0, 100, -20, 9000, 40), api.Command{Sink: 14}, api.Command{Side: -8, Sink: 16}},
		{2, frame(0, 0, 0, 1524, 40), api.Command{Sink: 18}, api.Command{Sink: 18}},
		{2, frame(0, 0, 400, 1500, 40), api.Command{Sink: 24}, api.Command{Sink: 18}},
		{2, frame(api.CrewToga, 100, 0, 9000, 40), api.Command{Side: 4, Sink: 18, Turn: 7}, api.Command{Sink: 4}},
		{3, frame(0, 0, 0, 300, 40), api.Command{Sink: 10}, api.Command{Sink: 6, Turn: -10}},
		{3, frame(0, 0, 0, 301, 40), api.Command{Sink: 10}, api.Command{Sink: 6}},
		{4, down(frame(0, 40, 0, 0, 40)), api.Command{Sink: 3}, api.Command{Side: -10, Turn: -10}},
		{4, frame(0, 40, 0, 0, 40), api.Command{Sink: 3}, api.Command{Side: -10, Sink: 3, Turn: -10}},
		{4, frame(0, 48, 0, 0, 40), api.Command{Sink: 3}, api.Command{Side: -12, Sink: 3, Turn: -10}},
		{5, down(frame(0, 48, 0, 0, 40)), api.Command{}, api.Command{Side: -10, Turn: -10}},
		{5, down(frame(api.CrewOff, 48, 0, 0, 40)), api.Command{Side: -10, Turn: -10}, api.Command{}},
		{6, frame(0, 48, 0, 9000, 40), api.Command{Sink: 4}, api.Command{Sink: -10}},
		{6, frame(api.CrewReset, 48, 0, 9000, 40), api.Command{Sink: -20}, api.Command{Sink: -6}},
		{2, units(frame(0, 48, 0, 9000, 40), 3), api.Command{Side: -4, Sink: 18}, api.Command{Sink: 4}},
		{2, without(frame(0, 48, -20, 9000, 40), api.Loc), api.Command{Side: -4, Sink: 18}, api.Command{Side: -4, Sink: 16}},
		{2, without(frame(0, 48, -20, 9000, 40), api.Glide), api.Command{Side: -4, Sink: 18}, api.Command{Side: -4, Sink: 18}},
	} {
		l := ready(example.was)
		l.Cmd = example.last
		if got, _ := step(t, l, example.x); got.Cmd != example.want {
			t.Errorf("%v: %v", example, got.Cmd)
		}
	}
}

// P26.1: a signal of fewer sources is what the ones come to that are in, by this frame's words: the average of two, the one.
func TestStepCommandsOfFewer(t *testing.T) {
	for k := range 3 {
		l := ready(2)
		l.Health[0][k] = api.Health{Out: true, Bad: 4}
		x := frame(0, 0, 0, 9000, 0)
		x.Words[0][k] = word(0, k, 300)
		x.Words[0][(k+1)%3], x.Words[0][(k+2)%3] = word(0, (k+1)%3, 160), word(0, (k+2)%3, 80)
		if got, _ := step(t, l, x); got.Cmd.Side != -10 {
			t.Errorf("without %d: %v", k, got.Cmd)
		}
		l.Health[0][(k+1)%3], l.Cap.Frozen = api.Health{Out: true, Good: 1}, true
		if got, _ := step(t, l, x); got.Cmd.Side != -6 {
			t.Errorf("with %d alone: %v", (k+2)%3, got.Cmd)
		}
	}
}

// P26.1: what is shown is warn's: of the states ahead of the frame and behind it, the capability and the counts behind it.
func TestStepShows(t *testing.T) {
	off := frame(0, 501, 0, 9000, 0)
	for _, example := range []struct {
		was  uint8
		cap  api.Cap
		wide [2]int
		x    api.Input
		want api.Show
	}{
		{0, api.Cap{}, [2]int{}, high(0), api.Show{Level: 2}},
		{0, api.Cap{}, [2]int{}, high(api.CrewArm), api.Show{Mode: 1, Level: 2}},
		{1, api.Cap{Level: 1, Most: 1}, [2]int{}, high(0), api.Show{Mode: 2, Level: 2, Toga: true}},
		{1, api.Cap{Level: 2, Most: 2}, [2]int{}, high(api.CrewOff), api.Show{Level: 2}},
		{2, api.Cap{Level: 2, Most: 2}, [2]int{3, 0}, high(api.CrewOff), api.Show{Level: 2, Warn: 1}},
		{2, api.Cap{Level: 2, Most: 2}, [2]int{}, units(high(0), 3), api.Show{Warn: 1}},
		{2, api.Cap{Level: 2, Most: 2}, [2]int{2, 3}, off, api.Show{Mode: 2, Level: 2, Toga: true}},
		{2, api.Cap{Level: 2, Most: 2}, [2]int{3, 0}, off, api.Show{Mode: 2, Level: 2, Toga: true, Warn: 3}},
		{2, api.Cap{Level: 2, Most: 2}, [2]int{0, 9}, off, api.Show{Mode: 2, Level: 2, Toga: true}},
		{2, api.Cap{Level: 1, Most: 2}, [2]int{3, 0}, off, api.Show{Mode: 2, Level: 1, Toga: true, Warn: 3}},
		{2, api.Cap{Level: 1, Most: 2}, [2]int{4, 0}, high(0), api.Show{Mode: 2, Level: 1, Toga: true, Warn: 4}},
		{2, api.Cap{Level: 2, Most: 2}, [2]int{}, units(high(0), 7), api.Show{Mode: 2, Level: 1, Toga: true, Warn: 4}},
		{2, api.Cap{Level: 2, Most: 2}, [2]int{3, 3}, frame(api.CrewToga, 900, 900, 9000, 0), api.Show{Mode: 6, Level: 2}},
		{3, api.Cap{Level: 1, Frozen: true, Most: 2}, [2]int{}, frame(0, 0, 0, 200, 0), api.Show{Mode: 4, Level: 1, Toga: true, Warn: 4}},
		{4, api.Cap{Level: 2, Frozen: true, Most: 2}, [2]int{0, 3}, down(frame(0, 0, -501, 0, 0)), api.Show{Mode: 5, Level: 2, Warn: 3}},
		{5, api.Cap{Level: 2, Frozen: true, Most: 2}, [2]int{}, down(high(api.CrewOff)), api.Show{Level: 2, Warn: 1}},
		{6, api.Cap{Level: 2, Frozen: true, Most: 2}, [2]int{9, 9}, frame(0, 900, 900, 9000, 0), api.Show{Mode: 6, Level: 2}},
		{6, api.Cap{Level: 1, Frozen: true, Most: 2}, [2]int{}, high(api.CrewReset), api.Show{Level: 2, Warn: 1}},
	} {
		l := ready(example.was)
		l.Cap, l.Wide = example.cap, example.wide
		if _, show := step(t, l, example.x); show != example.want {
			t.Errorf("%v: %v", example, show)
		}
	}
}

// P26.1: what one frame changes is seen by the later steps of the same frame, and by none ahead of them.
func TestStepOrder(t *testing.T) {
	// A source that goes out takes the level, the level the mode, and the mode the commands: all in one frame.
	l := ready(2)
	l.Health[3] = [3]api.Health{{Out: true, Bad: 4}, {}, {Bad: 3}}
	l.Cmd = api.Command{Side: -8, Sink: 18}
	x := frame(0, 96, 0, 9000, 0)
	x.Words[3][2] = 0
	got, show := step(t, l, x)
	if !got.Health[3][2].Out || got.Cap != (api.Cap{Most: 2}) || got.State.Mode != 0 || got.Cmd != (api.Command{Sink: 4}) || show != (api.Show{Warn: 1}) {
		t.Errorf("behind the last source but one: %v, %v", got, show)
	}
	// It is Off now: what hangs on the mode ahead of the frame sees that a frame later.
	l = ready(2)
	l.Health[0][0], l.Test = api.Health{Out: true, Good: 19}, api.Pretest{Step: 3}
	got, _ = step(t, l, high(api.CrewOff))
	if got.State.Mode != 0 || got.Health[0][0] != (api.Health{Out: true, Good: 20}) || got.Test != (api.Pretest{Step: 3}) || got.Cap.Level != 0 {
		t.Errorf("behind CrewOff: %v", got)
	}
	got, show = step(t, got, high(api.CrewArm))
	if got.State.Mode != 1 || got.Health[0][0] != (api.Health{}) || got.Test != passed || show.Level != 2 {
		t.Errorf("a frame later: %v, %v", got, show)
	}
	// An approach that begins below the alert height is frozen in its second frame, not in the one that begins it, in which nothing is counted either.
	l = ready(1)
	l.Wide = [2]int{3, 3}
	got, _ = step(t, l, frame(0, 0, 0, 6096, 0))
	if got.State.Mode != 2 || got.Cap.Frozen || got.Wide != [2]int{} {
		t.Errorf("behind the beams: %v", got)
	}
	got, show = step(t, got, units(frame(0, 600, 0, 6096, 0), 7))
	if got.Cap != (api.Cap{Level: 1, Frozen: true, Most: 2}) || got.Wide != [2]int{1, 0} || show.Warn != 4 {
		t.Errorf("a frame later: %v, %v", got, show)
	}
	// An approach that ends is frozen, and counts, in its last frame still.
	l = got
	l.Wide = [2]int{3, 0}
	got, show = step(t, l, frame(api.CrewToga, 600, 0, 6096, 0))
	if got.Cap != l.Cap || got.Wide != [2]int{4, 0} || show != (api.Show{Mode: 6, Level: 1}) {
		t.Errorf("behind CrewToga: %v, %v", got, show)
	}
	got, show = step(t, got, frame(0, 600, 0, 6096, 0))
	if got.Cap != (api.Cap{Level: 2, Most: 2}) || got.Wide != [2]int{} || show != (api.Show{Mode: 6, Level: 2}) {
		t.Errorf("a frame later: %v, %v", got, show)
	}
}

// P26.1: a lane does not go by which lanes are dead, or which messages are lost: that is seen by what comes.
func TestStepWithoutTheOthers(t *testing.T) {
	m := mixer(3)
	for range 500 {
		l, x, came := m.lane(), m.input(), m.came(7)
		want, wantShow := step(t, l, x, came...)
		for range 4 {
			x.Dead, x.Lost = [3]bool{m.once(2), m.once(2), m.once(2)}, [3][3]bool{{m.once(2), m.once(2)}, {m.once(2)}, {2: m.once(2)}}
			if got, show := step(t, l, x, came...); got != want || show != wantShow {
				t.Fatalf("Step(%v, %v): %v, %v, not %v, %v", l, x, got, show, want, wantShow)
			}
		}
	}
}

// P26.1: many lanes in any mode by many frames, as the chapter's words say.
func TestStepMixed(t *testing.T) {
	m := mixer(5)
	var modes, levels, warnings [8]int
	for range 30000 {
		l := m.lane()
		_, show := step(t, l, m.input(), m.came(l.Frame+1)...)
		modes[show.Mode]++
		levels[show.Level]++
		warnings[show.Warn]++
	}
	if slices.Min(modes[:7]) == 0 || slices.Min(levels[:3]) == 0 || warnings[0] == 0 || warnings[1] == 0 || warnings[3] == 0 || warnings[4] == 0 {
		t.Errorf("not all came: %v, %v, %v", modes, levels, warnings)
	}
}
