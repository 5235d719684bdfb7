package warn

import (
	"slices"
	"testing"

	"flarepath/api"
)

// truths are both of them.
var truths = [2]bool{false, true}

// approaching and engaged are the modes that the chapter of the modes names so.
var (
	approaching = []uint8{api.Approach, api.Flare, api.Align, api.Rollout}
	engaged     = []uint8{api.Approach, api.Flare, api.Align, api.Rollout, api.Around}
)

// full is a capability of which nothing is to be warned.
var full = api.Cap{Level: api.Land3, Most: api.Land3}

// bytes are the numbers 0 to 255.
func bytes() []uint8 {
	var l []uint8
	for n := range 256 {
		l = append(l, uint8(n))
	}
	return l
}

// modes are the seven, and some that are none.
func modes() []uint8 {
	return []uint8{0, 1, 2, 3, 4, 5, 6, 7, 8, 127, 128, 130, 254, 255}
}

// byWords reads the chapter's words, one warning behind the other.
func byWords(was, now uint8, c api.Cap, wide bool) uint8 {
	switch now {
	case 0:
		if was >= 2 && was <= 6 {
			return 1
		}
	case 2, 3, 4, 5:
		if c.Level == 0 {
			return 2
		}
		if wide {
			return 3
		}
		if c.Most > c.Level {
			return 4
		}
	}
	return 0
}

// wantOf asks Of of two modes, whether going around is armed behind the frame or not: what is shown is as it was handed in, with that warning.
func wantOf(t *testing.T, was, now uint8, c api.Cap, wide bool, warning uint8) {
	t.Helper()
	for _, toga := range truths {
		ahead, behind, kept := api.State{Mode: was, Toga: !toga}, api.State{Mode: now, Toga: toga}, c
		want := api.Show{Mode: now, Level: c.Level, Toga: toga, Warn: warning}
		if got := Of(ahead, behind, c, wide); got != want {
			t.Fatalf("Of(%v, %v, %v, %t) = %v, not %v", ahead, behind, c, wide, got, want)
		}
		if ahead != (api.State{Mode: was, Toga: !toga}) || behind != (api.State{Mode: now, Toga: toga}) || c != kept {
			t.Fatalf("Of made %v, %v and %v of what was handed in", ahead, behind, c)
		}
	}
}

// wantGravest asks Gravest, and whether the list stays as it is, the room behind its end too.
func wantGravest(t *testing.T, l []uint8, want uint8) {
	t.Helper()
	room := l[:cap(l)]
	kept := slices.Clone(room)
	if got := Gravest(l); got != want {
		t.Fatalf("Gravest(%v) = %d, not %d", l, got, want)
	}
	if !slices.Equal(room, kept) {
		t.Fatalf("Gravest made %v of %v", room, kept)
	}
}

// gravestByWords asks each warning's number, the gravest first, whether it is in the list.
func gravestByWords(l []uint8) uint8 {
	for _, w := range []uint8{1, 2, 3, 4} {
		if slices.Contains(l, w) {
			return w
		}
	}
	return 0
}

// mixer tells numbers by a rule that mixes them: the same ones each time.
type mixer uint64

func (m *mixer) below(n int) int {
	*m = *m*6364136223846793005 + 1442695040888963407
	return int(*m>>33) % n
}

// The chapter's table of examples.
func TestExamples(t *testing.T) {
	wantOf(t, api.Approach, api.Off, full, false, api.WarnOff)
	wantOf(t, api.Approach, api.Off, api.Cap{}, true, api.WarnOff)
	wantOf(t, api.Approach, api.Approach, api.Cap{}, false, api.WarnLand)
	wantOf(t, api.Approach, api.Approach, api.Cap{Most: 2}, true, api.WarnLand)
	wantOf(t, api.Flare, api.Flare, api.Cap{Level: 1, Most: 2}, true, api.WarnWide)
	wantGravest(t, []uint8{4, 0, 2, 9}, 2)
	if word, ok := Text(5); word != "" || ok {
		t.Errorf("Text(5) = %s, %t", word, ok)
	}
}

// The numbers by which the tests count.
func TestNumbers(t *testing.T) {
	if w := [5]int{api.WarnNone, api.WarnOff, api.WarnLand, api.WarnWide, api.WarnLevel}; w != [5]int{0, 1, 2, 3, 4} {
		t.Errorf("the warnings are %v", w)
	}
	m := [7]int{api.Off, api.Armed, api.Approach, api.Flare, api.Align, api.Rollout, api.Around}
	if m != [7]int{0, 1, 2, 3, 4, 5, 6} {
		t.Errorf("the modes are %v", m)
	}
	if l := [3]int{api.NoLand, api.Land2, api.Land3}; l != [3]int{0, 1, 2} {
		t.Errorf("the levels are %v", l)
	}
}

// P22.1: the mode behind the frame, the level and whether going around is armed as they are, each mode and each level of 0 to 255, with the gravest warning that holds.
func TestOfShowsWhatIs(t *testing.T) {
	for _, now := range bytes() {
		for _, level := range bytes() {
			for _, was := range []uint8{api.Off, api.Align, 255} {
				for _, wide := range truths {
					c := api.Cap{Level: level, Most: api.Land3}
					wantOf(t, was, now, c, wide, byWords(was, now, c, wide))
				}
			}
		}
	}
}

// P22.1: all that it hangs on at once: each pair of modes, levels below, alike and above, frozen and not, off the beam and not.
func TestOfByWords(t *testing.T) {
	times := map[uint8]int{}
	levels := []uint8{0, 1, 2, 3, 4, 127, 128, 255}
	for _, was := range modes() {
		for _, now := range modes() {
			for _, level := range levels {
				for _, most := range levels {
					for _, frozen := range truths {
						for _, wide := range truths {
							c := api.Cap{Level: level, Most: most, Frozen: frozen}
							want := byWords(was, now, c, wide)
							wantOf(t, was, now, c, wide, want)
							times[want]++
						}
					}
				}
			}
		}
	}
	if len(times) != 5 {
		t.Errorf("the warnings that came are %v", times)
	}
}

// P22.1: WarnOff of each mode of 0 to 255 ahead of the frame and each behind it: engaged ahead, and Off behind; where one of the two fails it is not there.
func TestWarnOff(t *testing.T) {
	times := 0
	for _, was := range bytes() {
		for _, now := range bytes() {
			want := uint8(api.WarnNone)
			if slices.Contains(engaged, was) && now == api.Off {
				want = api.WarnOff
				times++
			}
			wantOf(t, was, now, full, false, want)
			// Behind the frame nothing is approaching but in these, so that neither level nor beam changes what is shown.
			if !slices.Contains(approaching, now) {
				wantOf(t, was, now, api.Cap{Most: api.Land3}, true, want)
			}
		}
	}
	if times != len(engaged) {
		t.Errorf("it was shown %d times", times)
	}
}

// P22.1: WarnOff, one by one: each engaged mode ahead; none engaged ahead; engaged behind too.
func TestWarnOffOfSome(t *testing.T) {
	for _, was := range engaged {
		wantOf(t, was, api.Off, full, false, api.WarnOff)
		wantOf(t, was, api.Off, api.Cap{}, false, api.WarnOff)
		wantOf(t, was, api.Armed, full, false, api.WarnNone)
		for _, now := range engaged {
			wantOf(t, was, now, full, false, api.WarnNone)
		}
	}
	for _, was := range []uint8{api.Off, api.Armed, 7, 8, 127, 128, 130, 254, 255} {
		wantOf(t, was, api.Off, full, false, api.WarnNone)
		wantOf(t, was, api.Off, api.Cap{Most: api.Land3}, true, api.WarnNone)
	}
}

// P22.1: WarnLand of each mode behind the frame and each level of 0 to 255, Most being that level too: approaching, and NoLand; whatever the mode ahead is.
func TestWarnLand(t *testing.T) {
	times := 0
	for _, now := range bytes() {
		for _, level := range bytes() {
			want := uint8(api.WarnNone)
			if slices.Contains(approaching, now) && level == api.NoLand {
				want = api.WarnLand
				times++
			}
			for _, was := range []uint8{api.Off, api.Armed, now, 7, 255} {
				if was != now || now != api.Off {
					wantOf(t, was, now, api.Cap{Level: level, Most: level}, false, want)
				}
			}
		}
	}
	if times != len(approaching) {
		t.Errorf("it was shown of %d modes", times)
	}
}

// P22.1: WarnWide of each mode behind the frame, off the beam or not: approaching, and off the beam; whatever the mode ahead is, at each level that there is.
func TestWarnWide(t *testing.T) {
	for _, now := range bytes() {
		for _, wide := range truths {
			want := uint8(api.WarnNone)
			if slices.Contains(approaching, now) && wide {
				want = api.WarnWide
			}
			for _, was := range []uint8{api.Off, api.Armed, 7, 255} {
				wantOf(t, was, now, full, wide, want)
				wantOf(t, was, now, api.Cap{Level: api.Land2, Most: api.Land2}, wide, want)
			}
		}
	}
}

// P22.1: WarnLevel of each Level and each Most of 0 to 255, frozen or not: approaching, and Level below Most; where the level is NoLand, that is graver.
func TestWarnLevel(t *testing.T) {
	times := 0
	for _, level := range bytes() {
		for _, most := range bytes() {
			for _, frozen := range truths {
				c := api.Cap{Level: level, Most: most, Frozen: frozen}
				want := uint8(api.WarnNone)
				if level < most {
					want = api.WarnLevel
					times++
				}
				if level == api.NoLand {
					want = api.WarnLand
				}
				for _, now := range approaching {
					wantOf(t, api.Approach, now, c, false, want)
				}
				for _, now := range []uint8{api.Armed, api.Around, 7, 255} {
					wantOf(t, api.Approach, now, c, false, api.WarnNone)
				}
				wantOf(t, api.Armed, api.Off, c, false, api.WarnNone)
			}
		}
	}
	// Of 256 by 256 those on one side, frozen and not.
	if times != 256*255 {
		t.Errorf("Level was below Most %d times", times)
	}
}

// P22.1: WarnLevel of the levels that there are, written out, in each mode behind the frame.
func TestWarnLevelOfSome(t *testing.T) {
	for _, now := range bytes() {
		want := uint8(api.WarnNone)
		if slices.Contains(approaching, now) {
			want = api.WarnLevel
		}
		for _, frozen := range truths {
			wantOf(t, api.Armed, now, api.Cap{Level: api.Land2, Most: api.Land3, Frozen: frozen}, false, want)
			wantOf(t, api.Armed, now, api.Cap{Level: api.Land2, Most: api.Land2, Frozen: frozen}, false, api.WarnNone)
			wantOf(t, api.Armed, now, api.Cap{Level: api.Land3, Most: api.Land3, Frozen: frozen}, false, api.WarnNone)
			wantOf(t, api.Armed, now, api.Cap{Level: api.Land3, Most: api.Land2, Frozen: frozen}, false, api.WarnNone)
			wantOf(t, api.Armed, now, api.Cap{Level: api.Land2, Frozen: frozen}, false, api.WarnNone)
		}
	}
}

// P22.1: where two or three hold, the least of their numbers. WarnOff holds with none of the others, which ask for a mode behind the frame that is not Off.
func TestMoreThanOneHolds(t *testing.T) {
	for _, now := range approaching {
		for _, was := range modes() {
			wantOf(t, was, now, api.Cap{}, true, api.WarnLand)
			wantOf(t, was, now, api.Cap{Most: api.Land2}, false, api.WarnLand)
			wantOf(t, was, now, api.Cap{Most: api.Land3}, true, api.WarnLand)
			wantOf(t, was, now, api.Cap{Most: api.Land3, Frozen: true}, true, api.WarnLand)
			wantOf(t, was, now, api.Cap{Level: api.Land2, Most: api.Land3}, true, api.WarnWide)
			wantOf(t, was, now, api.Cap{Level: api.Land2, Most: api.Land3, Frozen: true}, true, api.WarnWide)
			wantOf(t, was, now, api.Cap{Level: 254, Most: 255}, true, api.WarnWide)
		}
	}
	for _, was := range engaged {
		wantOf(t, was, api.Off, api.Cap{Most: api.Land3}, true, api.WarnOff)
		wantOf(t, was, api.Off, api.Cap{Level: api.Land2, Most: api.Land3}, true, api.WarnOff)
	}
}

// P22.1: where none holds: Off behind Off or Armed, Armed, Around, and a mode that is none, whatever the level, off the beam or not.
func TestNoneHolds(t *testing.T) {
	for _, level := range bytes() {
		for _, most := range []uint8{0, 1, 2, 3, 255} {
			for _, wide := range truths {
				c := api.Cap{Level: level, Most: most}
				wantOf(t, api.Off, api.Off, c, wide, api.WarnNone)
				wantOf(t, api.Armed, api.Off, c, wide, api.WarnNone)
				for _, was := range modes() {
					for _, now := range []uint8{api.Armed, api.Around, 7, 128, 255} {
						wantOf(t, was, now, c, wide, api.WarnNone)
					}
				}
			}
		}
	}
	for _, was := range modes() {
		for _, now := range approaching {
			wantOf(t, was, now, full, false, api.WarnNone)
		}
	}
}

// P22.1: Gravest of nil and of none, whatever stands in the room behind its end.
func TestGravestOfNone(t *testing.T) {
	wantGravest(t, nil, api.WarnNone)
	wantGravest(t, []uint8{}, api.WarnNone)
	for _, w := range bytes() {
		wantGravest(t, []uint8{w, w}[:0], api.WarnNone)
	}
}

// P22.1: Gravest of one, each of 0 to 255: 1 to 4 are warnings, the others are none.
func TestGravestOfOne(t *testing.T) {
	for _, w := range bytes() {
		want := uint8(api.WarnNone)
		if w == 1 || w == 2 || w == 3 || w == 4 {
			want = w
		}
		wantGravest(t, []uint8{w}, want)
		wantGravest(t, []uint8{w, w}, want)
		wantGravest(t, []uint8{w, w, w}, want)
		// A graver one behind the list's end is not of the list.
		wantGravest(t, []uint8{w, 1, 2, 3, 4}[:1], want)
	}
}

// P22.1: Gravest of some, written out.
func TestGravestOfSome(t *testing.T) {
	for _, example := range []struct {
		l    []uint8
		want uint8
	}{
		{[]uint8{0, 5, 255}, 0}, {[]uint8{255, 254, 6, 5, 0, 0}, 0}, {[]uint8{129, 130, 131, 132}, 0},
		{[]uint8{0, 4}, 4}, {[]uint8{4, 0}, 4}, {[]uint8{5, 4}, 4}, {[]uint8{4, 5}, 4}, {[]uint8{255, 4, 0}, 4},
		{[]uint8{3, 4}, 3}, {[]uint8{4, 3}, 3}, {[]uint8{4, 3, 4, 4}, 3}, {[]uint8{0, 3, 5}, 3},
		{[]uint8{2, 3, 4}, 2}, {[]uint8{4, 3, 2}, 2}, {[]uint8{3, 2, 4, 2, 0}, 2}, {[]uint8{4, 0, 2, 9}, 2},
		{[]uint8{1, 2, 3, 4}, 1}, {[]uint8{4, 3, 2, 1}, 1}, {[]uint8{2, 1, 2}, 1}, {[]uint8{0, 255, 1, 5}, 1}, {[]uint8{1, 0}, 1},
	} {
		wantGravest(t, example.l, example.want)
	}
}

// P22.1: Gravest of each two of 0 to 255.
func TestGravestOfTwo(t *testing.T) {
	for _, first := range bytes() {
		for _, second := range bytes() {
			l := []uint8{first, second}
			wantGravest(t, l, gravestByWords(l))
		}
	}
}

// P22.1: Gravest of all lists of five, out of the numbers at which it may be another one.
func TestGravestOfAllShortLists(t *testing.T) {
	numbers := []uint8{0, 1, 2, 3, 4, 5, 255}
	for code := range 7 * 7 * 7 * 7 * 7 {
		l := make([]uint8, 0, 5)
		for range cap(l) {
			l = append(l, numbers[code%7])
			code /= 7
		}
		for end := range len(l) + 1 {
			wantGravest(t, l[:end], gravestByWords(l[:end]))
		}
	}
}

// P22.1: Gravest of many, 0 to 255 in any order, the same ones more than once, with all of the warnings and without some.
func TestGravestOfMany(t *testing.T) {
	m := mixer(22)
	times := map[uint8]int{}
	for left := range 16 {
		some := slices.DeleteFunc(bytes(), func(w uint8) bool { return w >= 1 && w <= 4 && left>>(w-1)&1 != 0 })
		for range 40 {
			l := slices.Concat(some, some)
			for i := range l {
				k := m.below(i + 1)
				l[i], l[k] = l[k], l[i]
			}
			want := gravestByWords(l)
			wantGravest(t, l, want)
			wantGravest(t, l[:200], gravestByWords(l[:200]))
			times[want]++
		}
	}
	if len(times) != 5 {
		t.Errorf("those that came are %v", times)
	}
	wantGravest(t, bytes(), 1)
	wantGravest(t, bytes()[5:], 0)
}

// P22.1: Text of 0 to 255: five words, nothing and no of all others.
func TestTextOfAll(t *testing.T) {
	words := map[uint8]string{
		api.WarnNone: "none", api.WarnOff: "off", api.WarnLand: "land", api.WarnWide: "wide", api.WarnLevel: "level",
	}
	for _, w := range bytes() {
		want, is := words[w]
		if word, ok := Text(w); word != want || ok != is {
			t.Errorf("Text(%d) = %q, %t", w, word, ok)
		}
	}
}

// P22.1: what is shown is Gravest of what holds, and has a word.
func TestWarnHasAWord(t *testing.T) {
	for _, was := range bytes() {
		for _, now := range modes() {
			show := Of(api.State{Mode: was}, api.State{Mode: now}, api.Cap{Level: was, Most: now}, now%2 == 0)
			if _, ok := Text(show.Warn); !ok {
				t.Errorf("of %d and %d there is the warning %d", was, now, show.Warn)
			}
			if got := Gravest([]uint8{show.Warn}); got != show.Warn {
				t.Errorf("of %d and %d Gravest of %d is %d", was, now, show.Warn, got)
			}
		}
	}
}

// frame is what Of is told of one frame.
type frame struct {
	was, now api.State
	c        api.Cap
	wide     bool
}

func (f frame) show() api.Show { return Of(f.was, f.now, f.c, f.wide) }

// frames are some by a rule that mixes them: most of them of what there is, a few of anything.
func frames(many int, seed mixer) []frame {
	m := seed
	some := func(below int) uint8 {
		if m.below(16) == 0 {
			return uint8(m.below(256))
		}
		return uint8(m.below(below))
	}
	yes := func() bool { return m.below(2) == 0 }
	var l []frame
	for range many {
		l = append(l, frame{
			was:  api.State{Mode: some(7), Toga: yes()},
			now:  api.State{Mode: some(7), Toga: yes()},
			c:    api.Cap{Level: some(3), Most: some(3), Frozen: yes()},
			wide: yes(),
		})
	}
	return l
}

// P22.2: whether going around was armed ahead of the frame, and whether the capability is frozen, change nothing; nor does the mode ahead, but by whether it was engaged, nor Most, but by whether it is above Level.
func TestHangsOnNothingElse(t *testing.T) {
	for _, f := range frames(20000, 5) {
		want := f.show()
		if warning := byWords(f.was.Mode, f.now.Mode, f.c, f.wide); want.Warn != warning {
			t.Fatalf("of %v the warning is %d", f, want.Warn)
		}
		for _, f.was.Toga = range truths {
			for _, f.c.Frozen = range truths {
				if got := f.show(); got != want {
					t.Fatalf("of %v is shown %v, not %v", f, got, want)
				}
			}
		}
		other := f
		other.was.Mode = api.Armed
		if slices.Contains(engaged, f.was.Mode) {
			other.was.Mode = api.Around
		}
		other.c.Most = 0
		if f.c.Most > f.c.Level {
			other.c.Most = 255
		}
		if got := other.show(); got != want {
			t.Fatalf("of %v is shown %v, of %v %v", f, want, other, got)
		}
	}
}

// P22.2: going around armed behind the frame is shown, and changes nothing else of what is shown.
func TestTogaBehindIsShownAlone(t *testing.T) {
	for _, f := range frames(5000, 7) {
		f.now.Toga = false
		without := f.show()
		f.now.Toga = true
		with := f.show()
		if without.Toga || !with.Toga {
			t.Fatalf("of %v is shown %v and %v", f, without, with)
		}
		with.Toga = false
		if with != without {
			t.Fatalf("of %v is shown %v and %v", f, without, with)
		}
	}
}

// P22.2: the same is shown whenever it is asked again, whatever was asked in between, in whichever order.
func TestAskedAgain(t *testing.T) {
	l := frames(3000, 9)
	var first []api.Show
	for _, f := range l {
		first = append(first, f.show())
	}
	list := []uint8{9, 4, 3, 0}
	for range 3 {
		for i := len(l) - 1; i >= 0; i-- {
			Gravest([]uint8{1, l[i].now.Mode})
			Text(l[i].was.Mode)
			if got := l[i].show(); got != first[i] {
				t.Fatalf("of %v is shown %v, first %v", l[i], got, first[i])
			}
			wantGravest(t, list, 3)
			if word, ok := Text(api.WarnWide); word != "wide" || !ok {
				t.Fatalf("Text = %q, %t", word, ok)
			}
		}
	}
}
