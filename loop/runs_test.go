package loop

import (
	"slices"
	"testing"

	"flarepath/api"
	"flarepath/port"
)

// source is what a watcher knows of a source.
type source struct {
	bad, good int
	out       bool
}

// watcher tells what a lane shows that was never dead, of the words of each frame, by the document's words of the vote, the ladder, the capability, the modes and the warnings.
type watcher struct {
	frame   int
	sources [api.Signals][api.Sources]source
	// lastHeard is the last frame in which each lane told something.
	lastHeard    [api.Lanes]int
	step, waits  int
	failed       bool
	level, most  uint8
	frozen       bool
	wide         [2]int
	mode         uint8
	armed        bool
	value        [api.Signals]int64
	is           [api.Signals]bool
	wasEngaged   bool
	wasApproach  bool
	crew, well   uint8
	wheel, isLow bool
}

func far(a, b, apart int64) bool { return a-b > apart || b-a > apart }

// note counts a frame in which a source was bad, or not.
func (s *source) note(bad, back bool) {
	if bad {
		s.bad, s.good = s.bad+1, 0
	} else {
		s.bad, s.good = 0, s.good+1
	}
	if s.bad >= 4 {
		s.out = true
	}
	if s.out && back && s.good >= 20 {
		*s = source{}
	}
}

// vote tells what a signal comes to, and what its sources are behind it.
func (w *watcher) vote(i int, words [api.Sources]uint32) {
	var said [api.Sources]bool
	var values [api.Sources]int64
	var present []int64
	for k, word := range words {
		r, errno := port.Read(i, k, word)
		said[k], values[k] = errno == api.OK, r.Value
		if said[k] && !w.sources[i][k].out {
			present = append(present, r.Value)
		}
	}
	slices.Sort(present)
	w.is[i], w.value[i] = true, 0
	switch len(present) {
	case 3:
		w.value[i] = present[1]
	case 2:
		w.is[i] = !far(present[0], present[1], apart[i])
		if w.is[i] {
			sum := present[0] + present[1]
			w.value[i] = (sum - sum&1) / 2
		}
	case 1:
		w.value[i] = present[0]
	default:
		w.is[i] = false
	}
	for k := range words {
		bad := !said[k] || !w.is[i] || far(values[k], w.value[i], apart[i])
		w.sources[i][k].note(bad, w.mode == api.Off)
	}
}

// test goes on with the test, in the mode Off.
func (w *watcher) test() {
	switch {
	case w.mode != api.Off:
	case w.crew&api.CrewReset != 0:
		w.step, w.waits, w.failed = 0, 0, false
	case w.step == 4 || w.failed:
	case w.well>>w.step&1 != 0:
		w.step, w.waits = w.step+1, 0
	default:
		w.waits++
		w.failed = w.waits == 5
	}
}

// ladder tells the level of so many sources, so many lanes, and the units.
func ladder(sources [api.Signals]int, lanes int, well uint8) uint8 {
	fewest := min(slices.Min(sources[:]), lanes)
	switch {
	case fewest < 2 || well&3 == 0 || well&4 == 0:
		return api.NoLand
	case fewest == 3 && well&15 == 15:
		return api.Land3
	}
	return api.Land2
}

// best tells the level that there is.
func (w *watcher) best() uint8 {
	var in [api.Signals]int
	for i, all := range w.sources {
		for _, s := range all {
			if !s.out {
				in[i]++
			}
		}
	}
	lanes := 0
	for _, last := range w.lastHeard {
		// Of Silence and 1 frames ago, up to Silence and Window: what is heard last counts for 11 frames more.
		if w.frame-last <= 11 {
			lanes++
		}
	}
	if w.step < 4 {
		return api.NoLand
	}
	return ladder(in, lanes, w.well)
}

// rate goes on with the capability.
func (w *watcher) rate() {
	best := w.best()
	if !w.wasApproach {
		w.level, w.most, w.frozen = best, best, false
		return
	}
	if w.frozen {
		return
	}
	w.level = min(w.level, best)
	w.frozen = w.isLow
}

// count goes on with how long it is off the beam.
func (w *watcher) count() {
	for i := range w.wide {
		if w.wasApproach && w.is[i] && far(w.value[i], 0, 500) {
			w.wide[i]++
		} else {
			w.wide[i] = 0
		}
	}
}

// below tells whether the height is there, or the wheels are down, and it is not above a height.
func (w *watcher) below(height int64) bool {
	return w.wheel || w.is[api.Height] && w.value[api.Height] <= height
}

// on tells whether a beam is there, and near.
func (w *watcher) on(i int) bool { return w.is[i] && !far(w.value[i], 0, 300) }

// next tells the mode behind a frame.
func (w *watcher) next() uint8 {
	high := !w.wheel && w.is[api.Height] && w.value[api.Height] > 6096
	toLand := w.mode >= api.Approach && w.mode <= api.Align
	switch {
	case w.mode != api.Off && w.crew&api.CrewOff != 0:
		return api.Off
	case toLand && w.crew&api.CrewToga != 0:
		return api.Around
	case (toLand || w.mode == api.Rollout) && w.level == api.NoLand:
		return api.Off
	case w.mode == api.Off && w.crew&api.CrewArm != 0 && w.level > api.NoLand && high:
		return api.Armed
	case w.mode == api.Armed && w.level == api.NoLand:
		return api.Off
	case w.mode == api.Armed && w.on(api.Loc) && w.on(api.Glide):
		return api.Approach
	case w.mode == api.Approach && w.below(1524):
		return api.Flare
	case w.mode == api.Flare && w.below(300):
		return api.Align
	case w.mode == api.Align && w.wheel:
		return api.Rollout
	case w.mode == api.Around && w.crew&api.CrewReset != 0 && high:
		return api.Off
	}
	return w.mode
}

// warning tells the gravest one that holds.
func (w *watcher) warning() uint8 {
	approaches := w.mode >= api.Approach && w.mode <= api.Rollout
	switch {
	case w.wasEngaged && w.mode == api.Off:
		return api.WarnOff
	case approaches && w.level == api.NoLand:
		return api.WarnLand
	case approaches && max(w.wide[0], w.wide[1]) >= 4:
		return api.WarnWide
	case approaches && w.level < w.most:
		return api.WarnLevel
	}
	return api.WarnNone
}

// see tells what is shown of a frame.
func (w *watcher) see(x api.Input) api.Show {
	w.frame++
	w.crew, w.well, w.wheel = x.Crew, x.Units, x.Wheel
	w.wasApproach = w.mode >= api.Approach && w.mode <= api.Rollout
	w.wasEngaged = w.mode >= api.Approach
	for n, dead := range x.Dead {
		if !dead {
			w.lastHeard[n] = w.frame
		}
	}
	for i, words := range x.Words {
		w.vote(i, words)
	}
	w.isLow = w.below(6096)
	w.test()
	w.rate()
	w.count()
	w.mode = w.next()
	return api.Show{Mode: w.mode, Level: w.level, Toga: w.mode >= api.Approach && w.mode <= api.Align, Warn: w.warning()}
}

// flight is one that is flown by a model too, and watched.
type flight struct {
	mixer
	*Flight
	model *model
	watch watcher
	// dead is whether each lane was ever dead.
	dead [api.Lanes]bool
	// bad is for how many frames each source was bad, by what is wrong with it.
	bad [api.Signals][api.Sources]int
	// gone is for how many frames each lane was dead.
	gone [api.Lanes]int
	well uint8
	blow api.Gust
	// calm is how seldom something happens.
	calm int
}

// calmFault is one that may well be survived.
func (m *mixer) calmFault() api.Fault {
	fault := api.Fault{Kind: uint8(1 + m.below(5)), At: uint32(m.below(420)), Signal: m.below(4), Source: m.below(3), By: m.between(-9000, 9000)}
	if fault.Kind == api.FaultLane && m.once(2) {
		fault.At += 100
	}
	if m.once(3) {
		fault.By = m.between(-600, 600)
	}
	return fault
}

// takeOff begins a flight from not far above the alert height.
func takeOff(t *testing.T, seed int) *flight {
	t.Helper()
	m := mixer(seed)
	h := m.between(6300, 6900)
	p := api.Plane{X: 20*h + m.between(-3000, 3000), Y: m.between(-200, 200), H: h, Turn: m.between(-2000, 2000)}
	var faults []api.Fault
	for range seed % 6 {
		faults = append(faults, m.calmFault())
	}
	return &flight{mixer: m, Flight: begin(t, p, faults...), model: like(p, faults...), well: 15, calm: 15 + seed%4*25}
}

// does tells what the crew does, mostly what lets the flight go on.
func (f *flight) does() uint8 {
	if f.once(20 * f.calm) {
		return uint8(f.number())
	}
	switch mode := f.watch.mode; {
	case mode == api.Off && f.watch.failed:
		return api.CrewReset
	case mode == api.Off && f.once(2):
		return api.CrewArm
	case mode >= api.Approach && mode <= api.Align && f.once(20*f.calm):
		return api.CrewToga
	case mode == api.Around && f.once(30):
		return api.CrewReset | uint8(f.below(2))<<f.below(8)
	case mode == api.Rollout && f.once(60):
		return api.CrewOff
	}
	return 0
}

// blows tells the gust of a frame: mostly the one of the frame ahead of it.
func (f *flight) blows() api.Gust {
	if f.once(f.calm) {
		f.blow = f.gust()
	}
	return f.blow
}

// units tells which units are well: mostly those of the frame ahead of it.
func (f *flight) units() uint8 {
	if f.once(6 * f.calm) {
		f.well = uint8(f.number())
	} else if f.once(20) {
		f.well = 15
	}
	return f.well
}

// count counts for how many frames sources were bad, and lanes dead, by the faults alone.
func (f *flight) count(x api.Input) {
	for i, words := range x.Words {
		for k, word := range words {
			f.bad[i][k]++
			if _, errno := port.Read(i, k, word); errno == api.OK {
				f.bad[i][k] = 0
			}
		}
	}
	for n, dead := range x.Dead {
		f.gone[n]++
		if !dead {
			f.gone[n] = 0
		}
		f.dead[n] = f.dead[n] || dead
	}
}

// ladderAtMost tells what the ladder tells at most, without the sources that were bad in each of the last Persist frames, and the lanes of which nothing was heard in the last 16.
func (f *flight) ladderAtMost(well uint8) uint8 {
	var sources [api.Signals]int
	for i, all := range f.bad {
		for _, n := range all {
			if n < 4 {
				sources[i]++
			}
		}
	}
	lanes := 0
	for _, n := range f.gone {
		if n < 16 {
			lanes++
		}
	}
	return ladder(sources, lanes, well)
}

// state tells a lane's state.
func (f *flight) state(t *testing.T, n int) api.Lane {
	t.Helper()
	l, ok := f.Lane(n)
	if !ok {
		t.Fatalf("there is no lane %d", n)
	}
	return l
}

// wantLevel asks what P0.2 says of a frame of a lane.
func (f *flight) wantLevel(t *testing.T, was, now api.Lane, units uint8, wheel bool) {
	t.Helper()
	approached := was.State.Mode >= api.Approach && was.State.Mode <= api.Rollout
	switch {
	case approached && now.Cap.Level > was.Cap.Level:
		t.Fatalf("frame %d: the level rose from %v to %v", f.Frames(), was.Cap, now.Cap)
	case approached && was.Cap.Frozen && now.Cap != was.Cap:
		t.Fatalf("frame %d: below the alert height %v became %v", f.Frames(), was.Cap, now.Cap)
	case approached && wheel && !now.Cap.Frozen:
		t.Fatalf("frame %d: on the wheels %v", f.Frames(), now.Cap)
	case !now.Cap.Frozen && now.Cap.Level > f.ladderAtMost(units):
		t.Fatalf("frame %d: %v, of sources bad for %v, lanes dead for %v, units %d", f.Frames(), now.Cap, f.bad, f.gone, units)
	}
}

// wantAround asks what P0.3 says of a frame of the lanes that are not dead.
func wantAround(t *testing.T, was [api.Lanes]api.Lane, out api.Output, crew uint8) {
	t.Helper()
	for n, alive := range out.Alive {
		if !alive {
			continue
		}
		if was[n].State.Toga && crew&(api.CrewToga|api.CrewOff) == api.CrewToga && out.Show[n].Mode != api.Around {
			t.Fatalf("behind CrewToga: %v", out)
		}
		if was[n].State.Mode == api.Around && crew&(api.CrewOff|api.CrewReset) == 0 && out.Show[n].Mode != api.Around {
			t.Fatalf("behind going around: %v", out)
		}
	}
}

// wantAlike asks what P0.4 says of a frame: the lanes that were never dead show the same, and take the same commands; what goes to the surfaces lies between the commands of those that are not dead.
func (f *flight) wantAlike(t *testing.T, out api.Output) {
	t.Helper()
	var commands [3][]int64
	for n, alive := range out.Alive {
		if !alive {
			continue
		}
		c := f.state(t, n).Cmd
		for i, number := range []int64{c.Side, c.Sink, c.Turn} {
			commands[i] = append(commands[i], number)
		}
		for k := range n {
			if f.dead[n] || f.dead[k] {
				continue
			}
			if out.Show[n] != out.Show[k] || f.state(t, k).Cmd != c || f.lanes.Apart(n, k) != 0 {
				t.Fatalf("frame %d: the lanes %d and %d are not alike: %v", f.Frames(), k, n, out)
			}
		}
	}
	for i, number := range []int64{out.Cmd.Side, out.Cmd.Sink, out.Cmd.Turn} {
		if out.Is && (number < slices.Min(commands[i]) || number > slices.Max(commands[i])) {
			t.Fatalf("frame %d: %v is not between %v", f.Frames(), out.Cmd, commands)
		}
	}
}

// next takes the flight a frame on, and asks what P0.1 to P0.4 say of it.
func (f *flight) next(t *testing.T) api.Output {
	t.Helper()
	g, crew, units := f.blows(), f.does(), f.units()
	x := f.model.input(g, crew, units)
	var was [api.Lanes]api.Lane
	for n := range was {
		was[n] = f.state(t, n)
	}
	out := wantFrame(t, f.Flight, f.model, g, crew, units)
	f.count(x)
	show := f.watch.see(x)
	for n, dead := range f.dead {
		if !dead && out.Show[n] != show {
			t.Fatalf("frame %d: the lane %d shows %v, not %v", f.Frames(), n, out.Show[n], show)
		}
		if out.Alive[n] {
			f.wantLevel(t, was[n], f.state(t, n), units, x.Wheel)
		}
	}
	wantAround(t, was, out, crew)
	f.wantAlike(t, out)
	return out
}

// tally counts what was shown.
type tally struct {
	modes, levels, warnings [8]int
}

func (c *tally) add(o tally) {
	for n := range c.modes {
		c.modes[n] += o.modes[n]
		c.levels[n] += o.levels[n]
		c.warnings[n] += o.warnings[n]
	}
}

// P29.3, P0.1, P0.2, P0.3, P0.4: flights with faults, in any air, with a crew that goes around, and units that fail: each lane that was never dead shows what the document's words come to, and the level, going around and the commands are as they promise.
func TestFlights(t *testing.T) {
	var tallies [64]tally
	t.Run("", func(t *testing.T) {
		for seed := range tallies {
			t.Run("", func(t *testing.T) {
				t.Parallel()
				f := takeOff(t, seed)
				for range 560 {
					show := f.next(t).Show[0]
					tallies[seed].modes[show.Mode]++
					tallies[seed].levels[show.Level]++
					tallies[seed].warnings[show.Warn]++
				}
			})
		}
	})
	var all tally
	for _, c := range tallies {
		all.add(c)
	}
	if slices.Min(all.modes[:7]) < 500 || slices.Min(all.levels[:3]) < 1000 || all.warnings[0] < 1000 || all.warnings[1] < 10 || all.warnings[3] < 20 || all.warnings[4] < 1000 {
		t.Errorf("not all came: %v", all)
	}
}
