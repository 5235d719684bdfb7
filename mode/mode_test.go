package mode

import (
	"slices"
	"testing"

	"flarepath/api"
)

// all that the crew can do.
const anyCrew = api.CrewArm | api.CrewToga | api.CrewOff | api.CrewReset

// truths are both of them.
var truths = [2]bool{false, true}

// The states that may be.
var (
	off      = api.State{Mode: api.Off}
	armed    = api.State{Mode: api.Armed}
	approach = api.State{Mode: api.Approach, Toga: true}
	flare    = api.State{Mode: api.Flare, Toga: true}
	align    = api.State{Mode: api.Align, Toga: true}
	rollout  = api.State{Mode: api.Rollout}
	around   = api.State{Mode: api.Around}
)

// good are the states that may be, by their modes.
func good() []api.State {
	return []api.State{off, armed, approach, flare, align, rollout, around}
}

// bad are all states that may not be: modes that are none, and Toga where it should not be, or is missing.
func bad() []api.State {
	var l []api.State
	for mode := range 256 {
		for _, toga := range truths {
			if s := (api.State{Mode: uint8(mode), Toga: toga}); !slices.Contains(good(), s) {
				l = append(l, s)
			}
		}
	}
	return l
}

// senses are all of which each thing is one that there is: each band, each level, each crew, and the truths.
func senses() []api.Sense {
	var l []api.Sense
	for _, band := range []uint8{api.High, api.Alert, api.FlareBand, api.AlignBand, api.Ground, api.NoBand} {
		for _, level := range []uint8{api.NoLand, api.Land2, api.Land3} {
			for crew := range uint8(anyCrew + 1) {
				for bits := range 16 {
					l = append(l, api.Sense{
						Band: band, Level: level, Crew: crew,
						Loc: bits&1 != 0, Glide: bits&2 != 0, Wheel: bits&4 != 0, Wide: bits&8 != 0,
					})
				}
			}
		}
	}
	return l
}

// byWords reads the chapter's table mode by mode: of the rows that name the mode, the first one that holds.
func byWords(s api.State, x api.Sense) api.State {
	noLand := x.Level != 1 && x.Level != 2
	switch s {
	case off:
		if x.Crew&api.CrewArm > 0 && !noLand && x.Band == api.High {
			return armed
		}
	case armed:
		if x.Crew&api.CrewOff > 0 || noLand {
			return off
		}
		if x.Loc && x.Glide {
			return approach
		}
	case approach, flare, align:
		if x.Crew&api.CrewOff > 0 {
			return off
		}
		if x.Crew&api.CrewToga > 0 {
			return around
		}
		if noLand {
			return off
		}
		return downByWords(s, x)
	case rollout:
		if x.Crew&api.CrewOff > 0 || noLand {
			return off
		}
	case around:
		if x.Crew&api.CrewOff > 0 || x.Crew&api.CrewReset > 0 && x.Band == api.High {
			return off
		}
	default:
		return api.State{}
	}
	return s
}

// downByWords reads the three rows that lead down to the ground.
func downByWords(s api.State, x api.Sense) api.State {
	switch {
	case s == approach && (x.Band == api.FlareBand || x.Band == api.AlignBand || x.Band == api.Ground):
		return flare
	case s == flare && (x.Band == api.AlignBand || x.Band == api.Ground):
		return align
	case s == align && x.Band == api.Ground && x.Wheel:
		return rollout
	}
	return s
}

// wantNext asks Next, and whether what was handed in stays as it is.
func wantNext(t *testing.T, s api.State, x api.Sense, want api.State) {
	t.Helper()
	keptS, keptX := s, x
	if got := Next(s, x); got != want {
		t.Fatalf("Next(%v, %+v) = %v, not %v", s, x, got, want)
	}
	if s != keptS || x != keptX {
		t.Fatalf("Next made %v and %+v of %v and %+v", s, x, keptS, keptX)
	}
}

// The chapter's table of examples.
func TestExamples(t *testing.T) {
	wantNext(t, off, api.Sense{Crew: api.CrewArm, Band: api.High, Level: api.Land2}, armed)
	wantNext(t, armed, api.Sense{Loc: true, Glide: true, Level: api.Land2}, approach)
	wantNext(t, approach, api.Sense{Band: api.AlignBand, Level: api.Land2}, flare)
	wantNext(t, flare, api.Sense{Crew: api.CrewToga, Level: api.Land2}, around)
	wantNext(t, align, api.Sense{Level: api.NoLand}, off)
	wantNext(t, around, api.Sense{Crew: api.CrewReset, Band: api.Alert}, around)
	wantNext(t, approach, api.Sense{Crew: api.CrewOff | api.CrewToga}, off)
}

// P21.1: the numbers by which the tests below count.
func TestNumbers(t *testing.T) {
	modes := [7]int{api.Off, api.Armed, api.Approach, api.Flare, api.Align, api.Rollout, api.Around}
	if modes != [7]int{0, 1, 2, 3, 4, 5, 6} {
		t.Errorf("the modes are %v", modes)
	}
	bands := [6]int{api.High, api.Alert, api.FlareBand, api.AlignBand, api.Ground, api.NoBand}
	if bands != [6]int{0, 1, 2, 3, 4, 5} {
		t.Errorf("the bands are %v", bands)
	}
	if crew := [4]int{api.CrewArm, api.CrewToga, api.CrewOff, api.CrewReset}; crew != [4]int{1, 2, 4, 8} {
		t.Errorf("the crew's bits are %v", crew)
	}
	if levels := [3]int{api.NoLand, api.Land2, api.Land3}; levels != [3]int{0, 1, 2} {
		t.Errorf("the levels are %v", levels)
	}
}

// P21.1: May of each mode of 0 to 255, with Toga and without.
func TestMayOfAll(t *testing.T) {
	for mode := range 256 {
		is := mode <= 6
		toga := mode == 2 || mode == 3 || mode == 4
		if got := May(api.State{Mode: uint8(mode), Toga: true}); got != (is && toga) {
			t.Errorf("May(%d, Toga) = %t", mode, got)
		}
		if got := May(api.State{Mode: uint8(mode)}); got != (is && !toga) {
			t.Errorf("May(%d) = %t", mode, got)
		}
	}
}

// P21.1: May of each that may be, and of one beside each, written out.
func TestMayOfSome(t *testing.T) {
	for _, s := range good() {
		if !May(s) {
			t.Errorf("May(%v) = false", s)
		}
		s.Toga = !s.Toga
		if May(s) {
			t.Errorf("May(%v) = true", s)
		}
	}
	for _, mode := range []uint8{7, 8, 127, 128, 254, 255} {
		for _, toga := range truths {
			if May(api.State{Mode: mode, Toga: toga}) {
				t.Errorf("May(%d, %t) = true", mode, toga)
			}
		}
	}
}

// P21.1: each row of the chapter's table, where it holds with no more than it asks for.
func TestRowsHold(t *testing.T) {
	for _, s := range []api.State{armed, approach, flare, align, rollout, around} {
		wantNext(t, s, api.Sense{Crew: api.CrewOff, Level: api.Land2}, off)
		wantNext(t, s, api.Sense{Crew: api.CrewOff, Level: api.Land3, Band: api.NoBand}, off)
	}
	for _, s := range []api.State{approach, flare, align} {
		wantNext(t, s, api.Sense{Crew: api.CrewToga, Level: api.Land2}, around)
		wantNext(t, s, api.Sense{Crew: api.CrewToga, Level: api.Land3, Band: api.NoBand}, around)
	}
	for _, s := range []api.State{approach, flare, align, rollout} {
		wantNext(t, s, api.Sense{Band: api.High}, off)
		wantNext(t, s, api.Sense{Band: api.NoBand}, off)
	}
	for _, level := range []uint8{api.Land2, api.Land3} {
		wantNext(t, off, api.Sense{Crew: api.CrewArm, Level: level, Band: api.High}, armed)
		wantNext(t, armed, api.Sense{Loc: true, Glide: true, Level: level}, approach)
		for _, band := range []uint8{api.FlareBand, api.AlignBand, api.Ground} {
			wantNext(t, approach, api.Sense{Band: band, Level: level}, flare)
		}
		for _, band := range []uint8{api.AlignBand, api.Ground} {
			wantNext(t, flare, api.Sense{Band: band, Level: level}, align)
		}
		wantNext(t, align, api.Sense{Band: api.Ground, Wheel: true, Level: level}, rollout)
	}
	wantNext(t, armed, api.Sense{}, off)
	wantNext(t, around, api.Sense{Crew: api.CrewReset, Band: api.High}, off)
}

// P21.1: each row of the chapter's table, where one thing that it asks for fails by itself and no other row holds.
func TestRowsFail(t *testing.T) {
	for _, level := range []uint8{api.Land2, api.Land3} {
		for _, s := range []api.State{armed, approach, flare, align, rollout, around} {
			wantNext(t, s, api.Sense{Level: level, Band: api.High}, s)
		}
		wantNext(t, off, api.Sense{Level: level, Band: api.High}, off)
		for _, band := range []uint8{api.Alert, api.FlareBand, api.AlignBand, api.Ground, api.NoBand} {
			wantNext(t, off, api.Sense{Crew: api.CrewArm, Level: level, Band: band}, off)
			wantNext(t, around, api.Sense{Crew: api.CrewReset, Level: level, Band: band}, around)
		}
		wantNext(t, armed, api.Sense{Loc: true, Level: level}, armed)
		wantNext(t, armed, api.Sense{Glide: true, Level: level}, armed)
		for _, band := range []uint8{api.High, api.Alert, api.NoBand} {
			wantNext(t, approach, api.Sense{Band: band, Level: level}, approach)
		}
		for _, band := range []uint8{api.High, api.Alert, api.FlareBand, api.NoBand} {
			wantNext(t, flare, api.Sense{Band: band, Level: level}, flare)
		}
		for _, band := range []uint8{api.High, api.Alert, api.FlareBand, api.AlignBand, api.NoBand} {
			wantNext(t, align, api.Sense{Band: band, Wheel: true, Level: level}, align)
		}
		wantNext(t, align, api.Sense{Band: api.Ground, Level: level}, align)
		wantNext(t, around, api.Sense{Band: api.High, Level: level}, around)
	}
	wantNext(t, off, api.Sense{Crew: api.CrewArm, Band: api.High}, off)
	wantNext(t, around, api.Sense{Band: api.High}, around)
}

// P21.1: where two rows hold, the first of them.
func TestFirstRowOfTwo(t *testing.T) {
	for _, s := range []api.State{approach, flare, align} {
		wantNext(t, s, api.Sense{Crew: api.CrewOff | api.CrewToga, Level: api.Land3}, off)
		wantNext(t, s, api.Sense{Crew: api.CrewOff | api.CrewToga}, off)
		wantNext(t, s, api.Sense{Crew: api.CrewToga}, around)
		for _, band := range []uint8{api.FlareBand, api.AlignBand, api.Ground} {
			wantNext(t, s, api.Sense{Band: band, Wheel: true}, off)
			wantNext(t, s, api.Sense{Band: band, Wheel: true, Crew: api.CrewToga, Level: api.Land2}, around)
			wantNext(t, s, api.Sense{Band: band, Wheel: true, Crew: api.CrewToga}, around)
			wantNext(t, s, api.Sense{Band: band, Wheel: true, Crew: api.CrewOff, Level: api.Land2}, off)
		}
	}
	wantNext(t, armed, api.Sense{Loc: true, Glide: true}, off)
	wantNext(t, armed, api.Sense{Loc: true, Glide: true, Level: api.Land2, Crew: api.CrewOff}, off)
	wantNext(t, armed, api.Sense{Loc: true, Glide: true, Level: api.Land2, Crew: api.CrewOff | api.CrewArm}, off)
	wantNext(t, around, api.Sense{Crew: api.CrewOff | api.CrewReset, Band: api.Alert}, off)
	// One row is taken in a frame, though the next one would hold of what is behind it.
	wantNext(t, off, api.Sense{Crew: api.CrewArm, Level: api.Land2, Loc: true, Glide: true}, armed)
	wantNext(t, armed, api.Sense{Level: api.Land2, Loc: true, Glide: true, Band: api.Ground}, approach)
	wantNext(t, approach, api.Sense{Level: api.Land2, Band: api.Ground, Wheel: true}, flare)
	wantNext(t, flare, api.Sense{Level: api.Land2, Band: api.Ground, Wheel: true}, align)
	wantNext(t, approach, api.Sense{Crew: api.CrewToga | api.CrewReset, Level: api.Land2}, around)
	wantNext(t, around, api.Sense{Crew: api.CrewReset | api.CrewArm, Level: api.Land2}, off)
}

// P21.1: CrewOff in each of the modes: in Off its row does not hold, so that CrewArm counts there.
func TestCrewOffInEach(t *testing.T) {
	for _, x := range senses() {
		if x.Crew&api.CrewOff == 0 {
			continue
		}
		for _, s := range good()[1:] {
			wantNext(t, s, x, off)
		}
		without := x
		without.Crew &^= api.CrewOff
		wantNext(t, off, x, Next(off, without))
	}
	for crew := range 256 {
		does := uint8(crew) | api.CrewOff
		for _, s := range good()[1:] {
			wantNext(t, s, api.Sense{Crew: does, Level: api.Land2}, off)
			wantNext(t, s, api.Sense{Crew: does, Level: api.Land3, Band: api.Ground, Wheel: true}, off)
		}
		want := off
		if does&api.CrewArm != 0 {
			want = armed
		}
		wantNext(t, off, api.Sense{Crew: does, Level: api.Land2}, want)
		wantNext(t, off, api.Sense{Crew: does}, off)
		wantNext(t, off, api.Sense{Crew: does, Level: api.Land2, Band: api.Alert}, off)
	}
}

// P21.1: CrewToga in each of the modes: where going around is not armed, it changes nothing.
func TestCrewTogaInEach(t *testing.T) {
	for _, x := range senses() {
		if x.Crew&(api.CrewOff|api.CrewToga) != 0 {
			continue
		}
		with := x
		with.Crew |= api.CrewToga
		for _, s := range []api.State{off, armed, rollout, around} {
			wantNext(t, s, with, Next(s, x))
		}
		for _, s := range []api.State{approach, flare, align} {
			wantNext(t, s, with, around)
		}
	}
}

// P21.1: each Sense whose things are all ones that there are, in each state that may be: as the chapter's words say; each mode comes from each other one that they name.
func TestNextByWords(t *testing.T) {
	ways := map[[2]uint8]int{}
	for _, s := range good() {
		for _, x := range senses() {
			want := byWords(s, x)
			wantNext(t, s, x, want)
			ways[[2]uint8{s.Mode, want.Mode}]++
		}
	}
	// Seven that stay, and those of the ten rows, of which CrewOff's has six modes, CrewToga's three; where two rows go one way it counts once.
	if len(ways) != 7+6+3+1+1+3 {
		t.Errorf("the ways that came are %v", ways)
	}
}

// P21.1: each crew of 0 to 255 in each mode: the bits that are none of the four change nothing.
func TestCrewOfAll(t *testing.T) {
	for crew := range 256 {
		for _, band := range []uint8{api.High, api.FlareBand, api.AlignBand, api.Ground} {
			for _, level := range []uint8{api.NoLand, api.Land2} {
				for bits := range 4 {
					x := api.Sense{Band: band, Level: level, Loc: bits&1 != 0, Glide: bits&1 != 0, Wheel: bits&2 != 0}
					for _, s := range good() {
						x.Crew = uint8(crew) & anyCrew
						want := byWords(s, x)
						wantNext(t, s, x, want)
						x.Crew = uint8(crew)
						wantNext(t, s, x, want)
					}
				}
			}
		}
	}
}

// P21.1: Loc alone, Glide alone, both and none: both lead from Armed to Approach, and in no other mode do they change anything.
func TestLocAndGlide(t *testing.T) {
	for _, x := range senses() {
		x.Loc, x.Glide = false, false
		loc, glide, both := x, x, x
		loc.Loc, glide.Glide = true, true
		both.Loc, both.Glide = true, true
		for _, s := range good() {
			want := Next(s, x)
			wantNext(t, s, loc, want)
			wantNext(t, s, glide, want)
			if want == armed && s == armed {
				want = approach
			}
			wantNext(t, s, both, want)
		}
	}
}

// few are the senses without what other tests go through by itself: both beams there or none, and Wide not.
func few() []api.Sense {
	return slices.DeleteFunc(senses(), func(x api.Sense) bool { return x.Loc != x.Glide || x.Wide })
}

// P21.1: each Band of 0 to 255 in each mode: one that is none is as NoBand.
func TestBandOfAll(t *testing.T) {
	for _, x := range few() {
		if x.Band != api.NoBand {
			continue
		}
		for _, s := range good() {
			none := byWords(s, x)
			for band := range 256 {
				with := x
				with.Band = uint8(band)
				want := none
				if band < api.NoBand {
					want = byWords(s, with)
				}
				wantNext(t, s, with, want)
			}
		}
	}
}

// P21.1: each Level of 0 to 255 in each mode: one that is no level is as NoLand.
func TestLevelOfAll(t *testing.T) {
	for _, x := range few() {
		if x.Level != api.NoLand {
			continue
		}
		for _, s := range good() {
			none := byWords(s, x)
			for level := range 256 {
				with := x
				with.Level = uint8(level)
				want := none
				if level == api.Land2 || level == api.Land3 {
					want = byWords(s, with)
				}
				wantNext(t, s, with, want)
			}
		}
	}
}

// P21.1: each Band with each Level of 0 to 255, with all else that their rows ask for.
func TestBandAndLevelOfAll(t *testing.T) {
	for bits := range 1 << 16 {
		x := api.Sense{
			Band: uint8(bits), Level: uint8(bits >> 8), Loc: true, Glide: true, Wheel: true,
			Crew: api.CrewArm | api.CrewReset,
		}
		for _, s := range good() {
			wantNext(t, s, x, byWords(s, x))
		}
	}
}

// P21.1: some bands and levels that are none, written out.
func TestBandAndLevelOfNone(t *testing.T) {
	for _, none := range []uint8{6, 7, 127, 128, 130, 132, 254, 255} {
		for _, s := range good() {
			wantNext(t, s, api.Sense{Band: none, Wheel: true, Level: api.Land2, Crew: api.CrewArm | api.CrewReset}, s)
		}
	}
	for _, none := range []uint8{3, 4, 127, 128, 129, 130, 254, 255} {
		for _, s := range []api.State{off, armed, approach, flare, align, rollout} {
			wantNext(t, s, api.Sense{Level: none, Loc: true, Glide: true, Crew: api.CrewArm}, off)
		}
		wantNext(t, around, api.Sense{Level: none, Loc: true, Glide: true, Crew: api.CrewArm}, around)
	}
}

// P21.1: Wheel with each Band: it is asked for in Align alone, and with Ground alone.
func TestWheelWithEachBand(t *testing.T) {
	for band := range 256 {
		for _, s := range good() {
			x := api.Sense{Band: uint8(band), Level: api.Land2}
			want := Next(s, x)
			if s == align && band == api.Ground {
				wantNext(t, s, x, align)
				want = rollout
			}
			x.Wheel = true
			wantNext(t, s, x, want)
		}
	}
}

// P21.1: Wide changes nothing.
func TestWideChangesNothing(t *testing.T) {
	for _, x := range senses() {
		for _, s := range good() {
			x.Wide = false
			want := Next(s, x)
			x.Wide = true
			wantNext(t, s, x, want)
		}
	}
}

// P21.1: Next of each state that may not be: a zero one, whatever the Sense says.
func TestNextOfAllThatMayNotBe(t *testing.T) {
	l := bad()
	if len(l) != 512-7 {
		t.Fatalf("%d states may not be", len(l))
	}
	for i, x := range senses() {
		// Those next to ones that may be with each Sense, the others each with some.
		for k, s := range l {
			if s.Mode <= 8 || i%64 == k%64 {
				wantNext(t, s, x, api.State{})
			}
		}
	}
	for _, s := range l {
		wantNext(t, s, api.Sense{Crew: api.CrewArm, Level: api.Land3}, api.State{})
		wantNext(t, s, api.Sense{Band: 255, Level: 255, Crew: 255, Loc: true, Glide: true, Wheel: true, Wide: true}, api.State{})
	}
}

// P21.1: Toga behind each frame: just if the mode behind it is Approach, Flare or Align; so it may be.
func TestTogaBehindEach(t *testing.T) {
	for _, s := range append(good(), bad()[:20]...) {
		for _, x := range senses() {
			got := Next(s, x)
			toga := got.Mode == api.Approach || got.Mode == api.Flare || got.Mode == api.Align
			if got.Mode > api.Around || got.Toga != toga || !May(got) {
				t.Fatalf("Next(%v, %+v) = %v", s, x, got)
			}
		}
	}
}

// P21.2: Engaged of 0 to 255.
func TestEngagedOfAll(t *testing.T) {
	for mode := range 256 {
		want := slices.Contains([]int{api.Approach, api.Flare, api.Align, api.Rollout, api.Around}, mode)
		if got := Engaged(uint8(mode)); got != want {
			t.Errorf("Engaged(%d) = %t", mode, got)
		}
	}
}

// P21.2: Approaching of 0 to 255.
func TestApproachingOfAll(t *testing.T) {
	for mode := range 256 {
		want := slices.Contains([]int{api.Approach, api.Flare, api.Align, api.Rollout}, mode)
		if got := Approaching(uint8(mode)); got != want {
			t.Errorf("Approaching(%d) = %t", mode, got)
		}
	}
}

// P21.2: the seven names, in their order, and told anew each time.
func TestNames(t *testing.T) {
	want := [7]string{"off", "armed", "approach", "flare", "align", "rollout", "around"}
	for range 3 {
		got := Names()
		if got != want {
			t.Fatalf("Names() = %v", got)
		}
		clear(got[:])
	}
	for mode, name := range map[uint8]string{
		api.Off: "off", api.Armed: "armed", api.Approach: "approach", api.Flare: "flare",
		api.Align: "align", api.Rollout: "rollout", api.Around: "around",
	} {
		if got := Names()[mode]; got != name {
			t.Errorf("the name of %d is %s", mode, got)
		}
	}
}

// mixer tells numbers by a rule that mixes them: the same ones each time.
type mixer uint64

func (m *mixer) below(n int) int {
	*m = *m*6364136223846793005 + 1442695040888963407
	return int(*m>>33) % n
}

// sense is mostly one that leads on from a mode, and now and then any one at all.
func (m *mixer) sense(mode uint8) api.Sense {
	if m.below(8) == 0 {
		return api.Sense{
			Band: uint8(m.below(256)), Level: uint8(m.below(256)), Crew: uint8(m.below(256)),
			Loc: m.below(2) == 0, Glide: m.below(2) == 0, Wheel: m.below(2) == 0, Wide: m.below(2) == 0,
		}
	}
	x := api.Sense{
		Band: uint8(m.below(6)), Level: uint8(1 + m.below(2)),
		Loc: m.below(3) != 0, Glide: m.below(3) != 0, Wheel: m.below(2) == 0, Wide: m.below(2) == 0,
	}
	switch {
	case mode == api.Off:
		x.Crew = api.CrewArm
		x.Band = uint8(m.below(2))
	case mode == api.Around:
		x.Crew = uint8(m.below(16)) & uint8(m.below(16)) & uint8(m.below(16))
	case m.below(6) == 0:
		x.Crew = api.CrewToga | uint8(m.below(256))
	}
	return x
}

// seen is what came in a run.
type seen struct{ wentAround, landed, stayedAround int }

// add asks the promise of one frame of a run, and counts what came in it.
func (c *seen) add(t *testing.T, was, now api.State, x api.Sense) {
	t.Helper()
	if !May(now) {
		t.Fatalf("behind %v and %+v: %v, which may not be", was, x, now)
	}
	if was.Toga && x.Crew&api.CrewToga != 0 && x.Crew&api.CrewOff == 0 {
		c.wentAround++
		if now != around {
			t.Fatalf("behind %v and %+v: %v", was, x, now)
		}
	}
	if was == around && x.Crew&(api.CrewOff|api.CrewReset) == 0 {
		c.stayedAround++
		if now != around {
			t.Fatalf("behind %v and %+v: %v", was, x, now)
		}
	}
	if now != was && api.Flare <= now.Mode && now.Mode <= api.Rollout && was.Mode != now.Mode-1 {
		t.Fatalf("behind %v came %v", was, now)
	}
	if was == align && now == rollout {
		c.landed++
	}
}

// P21.3: over all runs of the Senses that differ in what they do, short enough to go through all of them, from Off on.
func TestAllShortRuns(t *testing.T) {
	kinds := []api.Sense{
		{Level: api.Land2, Crew: api.CrewArm},
		{Level: api.Land2, Loc: true, Glide: true},
		{Level: api.Land2, Band: api.FlareBand},
		{Level: api.Land2, Band: api.Ground, Wheel: true},
		{Crew: api.CrewToga},
		{Crew: api.CrewOff | api.CrewToga},
		{Crew: api.CrewReset},
	}
	const frames = 6
	var came seen
	number := 1
	for range frames {
		number *= len(kinds)
	}
	for number := range number {
		s := off
		for rest, place := number, 0; place < frames; place, rest = place+1, rest/len(kinds) {
			x := kinds[rest%len(kinds)]
			next := Next(s, x)
			came.add(t, s, next, x)
			s = next
		}
	}
	if came.wentAround == 0 || came.landed == 0 || came.stayedAround == 0 {
		t.Errorf("of what is promised came %+v", came)
	}
}

// P21.3: over many runs from Off on, long ones among them: each frame by itself.
func TestManyRuns(t *testing.T) {
	var came seen
	for run := range 400 {
		m := mixer(run)
		s := off
		frames := 1 + run*2
		if run%100 == 99 {
			frames = 20000
		}
		for range frames {
			x := m.sense(s.Mode)
			next := Next(s, x)
			came.add(t, s, next, x)
			if want := byWords(s, x); next != want {
				t.Fatalf("Next(%v, %+v) = %v, not %v", s, x, next, want)
			}
			s = next
		}
	}
	if came.wentAround < 1000 || came.landed < 100 || came.stayedAround < 1000 {
		t.Errorf("of what is promised came %+v", came)
	}
}

// P21.3: once it is Around, it stays that over whole runs in which the crew says neither CrewOff nor CrewReset; CrewReset alone ends it at High, and nowhere else.
func TestStaysAround(t *testing.T) {
	for _, from := range []api.State{approach, flare, align} {
		for run := range 50 {
			m := mixer(run)
			x := m.sense(from.Mode)
			x.Crew = x.Crew&^api.CrewOff | api.CrewToga
			s := Next(from, x)
			for range 300 {
				if s != around {
					t.Fatalf("from %v it is %v", from, s)
				}
				x = m.sense(uint8(m.below(7)))
				x.Crew &^= api.CrewOff | api.CrewReset
				s = Next(s, x)
			}
			for band := range 256 {
				x = api.Sense{Band: uint8(band), Crew: api.CrewReset, Level: uint8(m.below(256))}
				want := around
				if band == api.High {
					want = off
				}
				wantNext(t, s, x, want)
			}
			wantNext(t, s, api.Sense{Band: uint8(m.below(256)), Crew: api.CrewOff}, off)
		}
	}
}

// P21.3: a whole landing, frame by frame.
func TestWholeLanding(t *testing.T) {
	s := off
	for _, frame := range []struct {
		x    api.Sense
		want api.State
	}{
		{api.Sense{Level: api.Land3}, off},
		{api.Sense{Level: api.Land3, Crew: api.CrewArm}, armed},
		{api.Sense{Level: api.Land3, Loc: true}, armed},
		{api.Sense{Level: api.Land3, Loc: true, Glide: true}, approach},
		{api.Sense{Level: api.Land3, Band: api.Alert}, approach},
		{api.Sense{Level: api.Land2, Band: api.NoBand}, approach},
		{api.Sense{Level: api.Land2, Band: api.FlareBand}, flare},
		{api.Sense{Level: api.Land2, Band: api.FlareBand}, flare},
		{api.Sense{Level: api.Land2, Band: api.AlignBand}, align},
		{api.Sense{Level: api.Land2, Band: api.Ground, Wheel: true}, rollout},
		{api.Sense{Level: api.Land2, Band: api.Ground, Wheel: true, Crew: api.CrewToga}, rollout},
		{api.Sense{Level: api.Land2, Band: api.High, Crew: api.CrewReset}, rollout},
		{api.Sense{Level: api.Land2, Band: api.Ground, Crew: api.CrewOff}, off},
	} {
		wantNext(t, s, frame.x, frame.want)
		s = frame.want
	}
}

// What a call answers hangs on nothing that was asked before it.
func TestAskedAgain(t *testing.T) {
	x := api.Sense{Band: api.AlignBand, Level: api.Land2}
	for range 3 {
		wantNext(t, approach, x, flare)
		wantNext(t, flare, x, align)
		wantNext(t, align, x, align)
		wantNext(t, approach, api.Sense{Crew: api.CrewToga}, around)
		wantNext(t, api.State{Mode: 7}, x, off)
	}
}
