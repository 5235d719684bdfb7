package lane

import (
	"bytes"
	"slices"
	"sync"
	"testing"

	"flarepath/api"
	"flarepath/link"
	"flarepath/port"
)

// three are lanes that hear what the others tell.
type three [3]api.Lane

// begin tells three new lanes.
func begin(t *testing.T) three {
	t.Helper()
	var r three
	for own := range r {
		l, errno := New(own)
		if errno != api.OK {
			t.Fatalf("New(%d): %d", own, errno)
		}
		r[own] = l
	}
	return r
}

// lossy tells whether what a lane tells another one is lost.
type lossy func(from, to int) bool

func never(int, int) bool { return false }

// of is lossy of one lane alone.
func of(lane int) lossy {
	return func(from, _ int) bool { return from == lane }
}

// next takes the lanes a frame on, and tells what they show.
func (r *three) next(t *testing.T, x api.Input, lost lossy) [3]api.Show {
	t.Helper()
	var shows [3]api.Show
	var tells [3][]byte
	for from, l := range r {
		tells[from] = Tell(l)
	}
	for to := range r {
		var came [][]byte
		for from, b := range tells {
			if from != to && !lost(from, to) {
				came = append(came, b)
			}
		}
		r[to], shows[to] = step(t, r[to], x, came...)
	}
	return shows
}

// bare is a lane without its links.
func bare(l api.Lane) api.Lane {
	l.Links = api.Links{}
	return l
}

// wantAlike asks whether two lanes are alike but for their links, and show the same.
func wantAlike(t *testing.T, a, b api.Lane, showA, showB api.Show) {
	t.Helper()
	if link.Alive(a.Links) != link.Alive(b.Links) {
		t.Fatalf("not the same lanes are alive for %v and %v", a.Links, b.Links)
	}
	if bare(a) != bare(b) || showA != showB {
		t.Fatalf("two lanes are not alike:\n%v, %v\n%v, %v", a, showA, b, showB)
	}
}

// wantShow asks what all lanes show.
func wantShow(t *testing.T, n int, shows [3]api.Show, want api.Show) {
	t.Helper()
	for own, show := range shows {
		if show != want {
			t.Fatalf("frame %d, lane %d shows %v, not %v", n, own, show, want)
		}
	}
}

// land3 is what is shown of a mode with all that Land3 needs.
func land3(mode uint8) api.Show {
	return api.Show{Mode: mode, Level: 2, Toga: state(mode).Toga}
}

// P26.2: a landing from new lanes on, more than 200 frames: each mode begins where the chapters say.
func TestLanding(t *testing.T) {
	r := begin(t)
	for n := 1; n <= 260; n++ {
		crew, loc, h, want := uint8(0), int64(900), int64(20000), land3(api.Off)
		switch {
		case n < 4:
			want = api.Show{}
		case n >= 10 && n < 20:
			want = land3(api.Armed)
		case n >= 20:
			want = land3(api.Approach)
		}
		if n == 10 || n < 3 {
			crew = api.CrewArm
		}
		if n >= 20 {
			loc = 40
		}
		if n >= 50 {
			h = max(20000-int64(n-50)*150, 0)
		}
		x := frame(crew, loc, 0, h, 100)
		x.Wheel = h == 0
		// At 150 in a frame the height is 1550 at 173, 1400 at 174, 350 at 181, 200 at 182, 50 at 183, and 0 from 184 on.
		switch {
		case n >= 240:
			want = land3(api.Off)
		case n >= 184:
			want = land3(api.Rollout)
		case n >= 182:
			want = land3(api.Align)
		case n >= 174:
			want = land3(api.Flare)
		}
		if n == 240 {
			x.Crew = api.CrewOff
			want.Warn = api.WarnOff
		}
		wantShow(t, n, r.next(t, x, never), want)
		for own := range r {
			if frozen := n >= 143 && n <= 240; r[own].Cap.Frozen != frozen || r[own].Frame != uint32(n) {
				t.Fatalf("frame %d, lane %d: %v, %d", n, own, r[own].Cap, r[own].Frame)
			}
		}
	}
}

// behind tells the lanes n frames on from new ones, on the beam above the alert height, the crew doing the same in each.
func behind(t *testing.T, n int, crew uint8) three {
	t.Helper()
	r := begin(t)
	for range n {
		r.next(t, high(crew), never)
	}
	return r
}

// P26.2: a source that is silent for Persist frames is out; in the mode Off it is back behind Again good ones, and the level with it; else not before the first frame that begins in Off.
func TestSilentSource(t *testing.T) {
	for i := range api.Signals {
		for k := range api.Sources {
			for _, crew := range []uint8{0, api.CrewArm} {
				for _, long := range []int{1, 2, 3, 4, 5, 6, 19, 20, 21} {
					r := behind(t, 6, crew)
					x := high(0)
					x.Words[i][k] = 0
					for n := 1; n <= long; n++ {
						want := land3(crew * api.Approach)
						if n >= 4 {
							want.Level = 1
							want.Warn = crew * api.WarnLevel
						}
						wantShow(t, n, r.next(t, x, never), want)
					}
					for n := 1; n <= 30; n++ {
						isBack := long < 4 || crew == 0 && n >= 20
						want := land3(crew * api.Approach)
						if !isBack {
							want.Level = 1
							want.Warn = crew * api.WarnLevel
						}
						wantShow(t, n, r.next(t, high(0), never), want)
						if r[0].Health[i][k].Out == isBack {
							t.Fatalf("%d of %d, silent for %d, behind %d good ones: %v", k, i, long, n, r[0].Health[i][k])
						}
					}
					if crew == 0 {
						continue
					}
					want := api.Show{Level: 2, Warn: api.WarnOff}
					if long >= 4 {
						want.Level = 1
					}
					wantShow(t, 0, r.next(t, high(api.CrewOff), never), want)
					wantShow(t, 1, r.next(t, high(0), never), land3(api.Off))
				}
			}
		}
	}
}

// P26.2: a lane that is not heard is dead from the 12th frame on; it is alive again in the fifth frame in which it is heard. In an approach the level does not rise by that.
func TestUnheardLane(t *testing.T) {
	for k := range 3 {
		for _, crew := range []uint8{0, api.CrewArm} {
			for _, long := range []int{1, 3, 4, 5, 7, 8, 9, 10, 11, 12, 13, 15, 16, 17, 19, 20, 21, 40} {
				r := behind(t, 6, crew)
				fell := false
				for n := 1; n <= long+12; n++ {
					lost := never
					if n <= long {
						lost = of(k)
					}
					dead := n >= 12 && n <= long+4
					fell = fell || dead
					shows := r.next(t, high(0), lost)
					for own := range r {
						want := land3(crew * api.Approach)
						if own != k && (dead || crew != 0 && fell) {
							want.Level, want.Warn = 1, crew*api.WarnLevel
						}
						if shows[own] != want {
							t.Fatalf("lane %d unheard for %d, frame %d: lane %d shows %v, not %v", k, long, n, own, shows[own], want)
						}
					}
					a, b := (k+1)%3, (k+2)%3
					wantAlike(t, r[a], r[b], shows[a], shows[b])
				}
			}
		}
	}
}

// P26.2: a lane that one other lane hears is alive for both of them.
func TestHalfHeardLane(t *testing.T) {
	for k := range 3 {
		for to := range 3 {
			if to == k {
				continue
			}
			r := behind(t, 6, api.CrewArm)
			for n := range 220 {
				shows := r.next(t, high(0), func(a, b int) bool { return a == k && b == to })
				wantShow(t, n, shows, land3(api.Approach))
				wantAlike(t, r[0], r[1], shows[0], shows[1])
				wantAlike(t, r[0], r[2], shows[0], shows[2])
			}
		}
	}
}

// P26.2: alone a lane has no level, so that it is off in the 12th frame, if that is above the alert height; below it nothing changes.
func TestAlone(t *testing.T) {
	for own := range 3 {
		for _, h := range []int64{6097, 6096} {
			l := behind(t, 6, api.CrewArm)[own]
			for n := 1; n <= 240; n++ {
				want := land3(api.Approach)
				switch {
				case h > 6096 && n == 12:
					want = api.Show{Warn: api.WarnOff}
				case h > 6096 && n > 12:
					want = api.Show{}
				}
				var show api.Show
				l, show = step(t, l, frame(0, 0, 0, h, 0))
				if show != want {
					t.Fatalf("height %d, frame %d: %v, not %v", h, n, show, want)
				}
			}
		}
	}
}

// P26.2: a unit that is not well in its step of the test for 5 frames fails it, until the crew resets it.
func TestUnitNotWell(t *testing.T) {
	for unit := range api.Units {
		for _, long := range []int{1, 3, 4, 5, 6, 12, 20} {
			l, _ := New(1)
			var show api.Show
			good := units(high(0), 15)
			bad := units(high(0), 15-1<<unit)
			for range unit {
				l, _ = step(t, l, good)
			}
			for range long {
				l, _ = step(t, l, bad)
			}
			want := api.Pretest{Step: unit, Frames: min(long, 5), Failed: long >= 5}
			if l.Test != want {
				t.Fatalf("unit %d not well for %d: %v", unit, long, l.Test)
			}
			for n := unit; n < 4; n++ {
				l, show = step(t, heardAll(l), good)
			}
			if level := show.Level; l.Test.Passed != (long < 5) || level == 2 != (long < 5) || l.Test.Failed != (long >= 5) {
				t.Fatalf("unit %d not well for %d, later: %v, %v", unit, long, l.Test, show)
			}
			l, show = step(t, heardAll(l), high(api.CrewReset))
			if l.Test != (api.Pretest{}) || show.Level != 0 {
				t.Fatalf("unit %d, reset: %v, %v", unit, l.Test, show)
			}
			for n := range 4 {
				l, show = step(t, heardAll(l), good)
				if show.Level == 2 != (n == 3) {
					t.Fatalf("unit %d, behind %d frames: %v, %v", unit, n+1, l.Test, show)
				}
			}
		}
	}
}

// heardAll is a lane that heard all others in all frames.
func heardAll(l api.Lane) api.Lane {
	links, _ := link.New(l.Links.Own)
	links.Frame = l.Frame
	l.Links = links
	return l
}

// P26.2: off the beam it is behind Persist wide frames one behind the other, of one of the two; what was wide ahead of the approach does not count.
func TestWideFrames(t *testing.T) {
	for i := range 2 {
		wide := [4]int64{0, 0, 9000, 0}
		wide[i] = 501
		for _, long := range []int{1, 3, 4, 5, 12, 20} {
			r := begin(t)
			for range 9 {
				r.next(t, frame(api.CrewArm, wide[:]...), never)
			}
			wantShow(t, 0, r.next(t, high(0), never), land3(api.Approach))
			for n := 1; n <= long; n++ {
				want := land3(api.Approach)
				if n >= 4 {
					want.Warn = api.WarnWide
				}
				wantShow(t, n, r.next(t, frame(0, wide[:]...), never), want)
			}
			wantShow(t, 0, r.next(t, high(0), never), land3(api.Approach))
			wantShow(t, 1, r.next(t, frame(0, wide[:]...), never), land3(api.Approach))
		}
	}
}

// P26.2, P0.3: CrewToga without CrewOff, where going around is armed, is going around behind that frame, whatever else happens in it; it stays so until CrewOff, or CrewReset above the alert height.
func TestGoingAround(t *testing.T) {
	for mode := uint8(2); mode <= 4; mode++ {
		for crew := range 256 {
			if crew&api.CrewToga == 0 || crew&api.CrewOff != 0 {
				continue
			}
			for well := range uint8(16) {
				for _, h := range heights() {
					x := units(h.x, well)
					x.Crew = uint8(crew)
					if got, show := step(t, ready(mode), x); got.State != (api.State{Mode: 6}) || show.Mode != 6 || show.Toga || show.Warn != 0 {
						t.Fatalf("mode %d, %v: %v, %v", mode, x, got.State, show)
					}
				}
			}
		}
	}
	m := mixer(6)
	for range 40 {
		l := ready(uint8(2 + m.below(3)))
		l, _ = step(t, l, high(api.CrewToga))
		for n := range 220 {
			x := m.input()
			x.Crew &^= api.CrewOff
			if x.Wheel || m.once(2) || n%7 == 0 {
				x.Crew &^= api.CrewReset
			} else if x.Crew&api.CrewReset != 0 {
				x = frame(x.Crew, 0, 0, 6096, 0)
			}
			var show api.Show
			if l, show = step(t, l, x, m.came(l.Frame+1)...); show.Mode != 6 {
				t.Fatalf("frame %d: %v", n, show)
			}
		}
		end := []uint8{api.CrewOff, api.CrewReset}[m.below(2)]
		if l, show := step(t, l, high(end|api.CrewToga)); show.Mode != 0 || show.Warn != api.WarnOff || l.State.Mode != 0 {
			t.Fatalf("behind crew %d: %v", end, show)
		}
	}
}

// lasts are for how many frames what is wrong lasts: next to those at which something turns.
var lasts = []int{1, 2, 3, 4, 5, 6, 10, 11, 12, 13, 15, 16, 17, 19, 20, 21, 22, 40}

// until is the frame in which something ends that is wrong.
type until struct {
	source [api.Signals][api.Sources]int
	kind   [api.Signals][api.Sources]int
	lost   [3][3]int
	unit   [api.Units]int
	beam   [2]int
}

// flight is a run of lanes in which things go wrong and are well again.
type flight struct {
	mixer
	three
	until
	// a and b hear each other often enough, whatever happens to c.
	a, b, c int
	// calm is how seldom something goes wrong.
	calm    int
	height  int64
	badFor  [api.Signals][api.Sources]int
	unheard [3]int
	missed  [3][3]int
}

// goWrong begins what goes wrong in the frame n.
func (f *flight) goWrong(n int) {
	pick := func() int { return n + lasts[f.below(len(lasts))] }
	if f.once(f.calm) {
		i, k := f.below(4), f.below(3)
		f.source[i][k], f.kind[i][k] = pick(), f.below(4)
	}
	if f.once(f.calm) {
		f.lost[f.below(3)][f.below(3)] = pick()
	}
	if f.once(f.calm) {
		end := pick()
		for k := range 3 {
			f.lost[f.c][k] = end
		}
	}
	if f.once(2 * f.calm) {
		f.unit[f.below(4)] = pick()
	}
	if f.once(2 * f.calm) {
		f.beam[f.below(2)] = pick()
	}
}

// crewDoes tells what the crew does, mostly what lets the flight go on.
func (f *flight) crewDoes(mode uint8) uint8 {
	if f.once(80) {
		return uint8(f.number())
	}
	switch {
	case mode == api.Off && f.three[f.a].Test.Failed:
		return api.CrewReset
	case mode == api.Off && f.once(3):
		return api.CrewArm
	case mode == api.Rollout && f.once(12), mode == api.Around && f.once(20):
		return api.CrewOff
	case mode == api.Around && f.once(10):
		return api.CrewReset
	case mode >= api.Approach && mode <= api.Align && f.once(90):
		return api.CrewToga
	}
	return 0
}

// fly tells the frame n.
func (f *flight) fly(n int) api.Input {
	mode := f.three[f.a].State.Mode
	switch {
	case mode == api.Off, mode == api.Armed:
		f.height = f.between(6500, 9000)
	case mode == api.Around:
		f.height = min(f.height+300, 9000)
	default:
		f.height = max(f.height-f.between(20, 200), 0)
	}
	x := frame(f.crewDoes(mode), f.says(n, api.Loc), f.says(n, api.Glide), f.height, f.between(-90, 90))
	x.Wheel = f.height == 0
	for i := range x.Words {
		for k, end := range f.source[i] {
			f.badFor[i][k]++
			switch kind := f.kind[i][k]; {
			case n >= end:
				f.badFor[i][k] = 0
			case kind == 0:
				x.Words[i][k] = 0
			case kind == 1:
				x.Words[i][k] = port.Broken(x.Words[i][k])
			case kind == 2:
				x.Words[i][k] = port.Failed(x.Words[i][k])
			default:
				x.Words[i][k] = word(i, k, 7777)
				f.badFor[i][k] = 0 // One that tells another value may be the one that is right.
			}
		}
	}
	for unit, end := range f.unit {
		if n < end {
			x.Units &^= 1 << unit
		}
	}
	return x
}

// says tells what a beam says: mostly that it is near, sometimes that it is wide.
func (f *flight) says(n, signal int) int64 {
	if n < f.beam[signal] {
		return f.between(501, 900)
	}
	return f.between(-90, 90)
}

// isLost tells whether a message is lost in the frame n: between a and b no more than three one behind the other.
func (f *flight) isLost(n int) lossy {
	var lost [3][3]bool
	for from := range 3 {
		for to := range 3 {
			lost[from][to] = n < f.lost[from][to] || f.once(20)
			if from != f.c && to != f.c && f.missed[from][to] >= 3 {
				lost[from][to] = false
			}
			f.missed[from][to]++
			if !lost[from][to] {
				f.missed[from][to] = 0
			}
		}
	}
	for k := range 3 {
		f.unheard[k]++
		for to := range 3 {
			if to != k && !lost[k][to] {
				f.unheard[k] = 0
			}
		}
	}
	return func(from, to int) bool { return lost[from][to] }
}

// most tells the level that the ladder tells at most: without the sources that were bad for Persist frames, and the other lanes of which nothing was heard for 16.
func (f *flight) most(own int, well uint8) uint8 {
	var sources [api.Signals]int
	for i, all := range f.badFor {
		for _, n := range all {
			if n < 4 {
				sources[i]++
			}
		}
	}
	lanes := 0
	for k, n := range f.unheard {
		if k == own || n < 16 {
			lanes++
		}
	}
	return levelByWords(sources, lanes, well, true)
}

// wantKept asks what P0.2 and P0.3 say of a frame of a lane.
func (f *flight) wantKept(t *testing.T, was, now api.Lane, x api.Input, show api.Show) {
	t.Helper()
	approaching := was.State.Mode >= 2 && was.State.Mode <= 5
	held := approaching && was.Cap.Frozen
	switch {
	case approaching && now.Cap.Level > was.Cap.Level:
		t.Fatalf("the level rose from %v to %v", was.Cap, now.Cap)
	case held && now.Cap != was.Cap:
		t.Fatalf("below the alert height %v became %v", was.Cap, now.Cap)
	case approaching && x.Wheel && !now.Cap.Frozen:
		t.Fatalf("on the wheels it is %v", now.Cap)
	case !held && show.Level > f.most(now.Links.Own, x.Units):
		t.Fatalf("the level is %v, of %v, lanes unheard for %v, units %d", show, f.badFor, f.unheard, x.Units)
	}
	toga, off, reset := x.Crew&api.CrewToga != 0, x.Crew&api.CrewOff != 0, x.Crew&api.CrewReset != 0
	if was.State.Toga && toga && !off && show.Mode != api.Around {
		t.Fatalf("behind CrewToga: %v", show)
	}
	if was.State.Mode == api.Around && !off && !reset && show.Mode != api.Around {
		t.Fatalf("going around became %v", show)
	}
}

// P26.2, P0.2, P0.3: long flights from new lanes on, with what goes wrong and is well again: each lane does what the chapter's words say, two that hear each other are alike but for their links, the level never rises in an approach, stays below the alert height, and is no more than the ladder tells; CrewToga goes around.
func TestFlights(t *testing.T) {
	var modes, levels, warnings [8]int
	for seed := range 90 {
		f := flight{mixer: mixer(seed), three: begin(t), a: seed % 3, b: (seed + 1 + seed/3%2) % 3, calm: 20 + seed*3}
		f.c = 3 - f.a - f.b
		for n := 1; n <= 260; n++ {
			f.goWrong(n)
			x := f.fly(n)
			was := f.three
			shows := f.three.next(t, x, f.isLost(n))
			for own, l := range f.three {
				f.wantKept(t, was[own], l, x, shows[own])
			}
			wantAlike(t, f.three[f.a], f.three[f.b], shows[f.a], shows[f.b])
			modes[shows[0].Mode]++
			levels[shows[0].Level]++
			warnings[shows[0].Warn]++
		}
	}
	if slices.Min(modes[:7]) < 100 || slices.Min(levels[:3]) < 100 || warnings[0] < 100 || warnings[1] < 10 || warnings[3] < 10 || warnings[4] < 100 {
		t.Errorf("not all came: %v, %v, %v", modes, levels, warnings)
	}
}

// P26.2: two lanes that hold the same lanes for alive ahead of a frame and behind it, and are alike but for their links, are alike behind it, and show the same, whatever they know of the lanes, whoever they are, and whatever came.
func TestAlike(t *testing.T) {
	m := mixer(7)
	alike := 0
	for range 40000 {
		a, x := m.lane(), m.input()
		b := a
		b.Links = m.links()
		b = at(b, a.Frame)
		if link.Alive(a.Links) != link.Alive(b.Links) {
			continue
		}
		nextA, showA := Step(a, x, m.came(a.Frame+1))
		nextB, showB := Step(b, x, m.came(b.Frame+1))
		if link.Alive(nextA.Links) == link.Alive(nextB.Links) {
			alike++
			wantAlike(t, nextA, nextB, showA, showB)
		}
	}
	if alike < 5000 {
		t.Errorf("only %d alike", alike)
	}
}

// P26.2: what is not alike is not made so: each part ahead of a frame is seen behind it, where the chapter says that it goes on.
func TestNotAlike(t *testing.T) {
	for mode := uint8(2); mode <= 5; mode++ {
		for n, other := range []change{
			func(l *api.Lane) { l.Health[3][2].Good = 9 },
			func(l *api.Lane) { l.Test = api.Pretest{Step: 2} },
			func(l *api.Lane) { l.Cap.Level = 1 },
			func(l *api.Lane) { l.Cap.Frozen = true },
			func(l *api.Lane) { l.Wide[0] = 1 },
			func(l *api.Lane) { l.Wide[1] = 1 },
			func(l *api.Lane) { *l = at(*l, 41) },
		} {
			a, b := ready(mode), ready(mode)
			other(&b)
			nextA, _ := step(t, a, frame(0, 900, 900, 9000, 0))
			nextB, _ := step(t, b, frame(0, 900, 900, 9000, 0))
			if bare(nextA) == bare(nextB) {
				t.Errorf("mode %d, change %d: alike", mode, n)
			}
		}
	}
}

// asked is a frame, and what came of it.
type asked struct {
	lane, next api.Lane
	input      api.Input
	came       [][]byte
	show       api.Show
	tells      []byte
}

func (a asked) again(t *testing.T) {
	t.Helper()
	if next, show := Step(a.lane, a.input, a.came); next != a.next || show != a.show {
		t.Errorf("asked again: Step(%v, %v, %v) = %v, %v, not %v, %v", a.lane, a.input, a.came, next, show, a.next, a.show)
	}
	if b := Tell(a.lane); !bytes.Equal(b, a.tells) {
		t.Errorf("asked again: Tell(%v) = %v, not %v", a.lane, b, a.tells)
	}
	if May(a.lane) != (len(a.tells) > 0) {
		t.Errorf("asked again: May(%v) = %v", a.lane, May(a.lane))
	}
}

// all are many frames of many lanes, some of which may not be.
func all(t *testing.T) []asked {
	t.Helper()
	m := mixer(8)
	hinder := hindrances()
	var l []asked
	for range 600 {
		a := asked{lane: m.lane(), input: m.input()}
		a.came = m.came(a.lane.Frame + 1)
		if m.once(6) {
			hinder[m.below(len(hinder))](&a.lane)
		}
		a.next, a.show = step(t, a.lane, a.input, a.came...)
		a.tells = Tell(a.lane)
		l = append(l, a)
	}
	return l
}

// P26.1: the same answer whenever it is asked again, whatever was asked in between: forwards, backwards, out of order, and by several at once.
func TestAskedAgain(t *testing.T) {
	l := all(t)
	for _, a := range l {
		a.again(t)
	}
	for _, a := range slices.Backward(l) {
		a.again(t)
		_, _ = New(1)
	}
	for n := range l {
		l[n*241%len(l)].again(t)
	}
	var group sync.WaitGroup
	for n := range 4 {
		group.Add(1)
		go func() {
			defer group.Done()
			for k := range l {
				l[(k*7+n*100)%len(l)].again(t)
			}
		}()
	}
	group.Wait()
	for own := range 3 {
		first, _ := New(own)
		second, _ := New(own)
		if first != second {
			t.Errorf("New(%d) = %v, then %v", own, first, second)
		}
	}
}

// P26.1: what was handed in stays as it was, the room behind its end too; what is answered shares no memory with it, nor with another answer.
func TestSharesNothing(t *testing.T) {
	m := mixer(9)
	for range 300 {
		l, x := m.lane(), m.input()
		frame := l.Frame + 1
		room := append(m.came(frame), put(m.message(frame)), put(m.message(frame)), m.spoiled(put(m.message(frame))))
		for i, b := range room {
			room[i] = append(slices.Clone(b), 1, 2, 3)[:len(b)]
		}
		kept := copied(room)
		for many := range room {
			next, show := Step(l, x, room[:many])
			keptNext := next
			for i, b := range room {
				if !bytes.Equal(b, kept[i]) || !bytes.Equal(b[:len(b)+3][len(b):], []byte{1, 2, 3}) {
					t.Fatalf("Step made %v of %v", b, kept[i])
				}
			}
			for _, b := range room[:many] {
				clear(b)
			}
			if again, other := Step(l, x, copied(kept[:many])); again != next || other != show || next != keptNext {
				t.Fatalf("Step(%v) = %v, then %v", l, next, again)
			}
			for i, b := range room {
				copy(b, kept[i])
			}
		}
		first, second := Tell(l), Tell(l)
		clear(first[:cap(first)])
		if !bytes.Equal(second, Tell(l)) || bytes.Equal(first, second) {
			t.Fatalf("Tell(%v): %v, %v", l, first, second)
		}
	}
}
