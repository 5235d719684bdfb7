package cap

import (
	"testing"

	"flarepath/api"
)

// truths are both of them.
var truths = [2]bool{false, true}

// all are the capabilities of each Level and each Most of 0 to 255, frozen and not.
func all(each func(api.Cap)) {
	for bits := range 1 << 16 {
		for _, frozen := range truths {
			each(api.Cap{Level: uint8(bits), Most: uint8(bits >> 8), Frozen: frozen})
		}
	}
}

// good are the capabilities that may be, written out.
func good() []api.Cap {
	return []api.Cap{
		{Level: api.NoLand, Most: api.NoLand}, {Level: api.NoLand, Most: api.NoLand, Frozen: true},
		{Level: api.NoLand, Most: api.Land2}, {Level: api.NoLand, Most: api.Land2, Frozen: true},
		{Level: api.Land2, Most: api.Land2}, {Level: api.Land2, Most: api.Land2, Frozen: true},
		{Level: api.NoLand, Most: api.Land3}, {Level: api.NoLand, Most: api.Land3, Frozen: true},
		{Level: api.Land2, Most: api.Land3}, {Level: api.Land2, Most: api.Land3, Frozen: true},
		{Level: api.Land3, Most: api.Land3}, {Level: api.Land3, Most: api.Land3, Frozen: true},
	}
}

// levels are those that there are.
func levels() []uint8 {
	return []uint8{api.NoLand, api.Land2, api.Land3}
}

// bests are all that can be handed in as the level that there is.
func bests(each func(uint8)) {
	for best := range 256 {
		each(uint8(best))
	}
}

// isGood asks the list for a capability.
func isGood(c api.Cap) bool {
	for _, other := range good() {
		if c == other {
			return true
		}
	}
	return false
}

// nextByWords reads the chapter's words sentence by sentence.
func nextByWords(c api.Cap, best uint8, approach, low bool) api.Cap {
	mayBe := c.Most == api.NoLand || c.Most == api.Land2 || c.Most == api.Land3
	if c.Level > c.Most || !mayBe {
		return api.Cap{}
	}
	if best != api.NoLand && best != api.Land2 && best != api.Land3 {
		return api.Cap{}
	}
	if !approach {
		return api.Cap{Level: best, Frozen: false, Most: best}
	}
	if c.Frozen {
		return c
	}
	lesser := c.Level
	if best < lesser {
		lesser = best
	}
	return api.Cap{Level: lesser, Frozen: low, Most: c.Most}
}

// wantNext asks Next, and whether what was handed in stays as it was.
func wantNext(t *testing.T, c api.Cap, best uint8, approach, low bool, want api.Cap) {
	t.Helper()
	kept := c
	if got := Next(c, best, approach, low); got != want {
		t.Fatalf("Next(%v, %d, %t, %t) = %v, not %v", c, best, approach, low, got, want)
	}
	if c != kept {
		t.Fatalf("Next made %v of %v", c, kept)
	}
}

// The chapter's table of examples, each answer handed on.
func TestExamples(t *testing.T) {
	c := Next(api.Cap{}, 2, false, false)
	if c.Level != 2 || c.Most != 2 {
		t.Fatalf("with no approach: %v", c)
	}
	if c = Next(c, 1, true, false); c.Level != 1 {
		t.Fatalf("it falls: %v", c)
	}
	if c = Next(c, 2, true, false); c.Level != 1 {
		t.Fatalf("it does not rise: %v", c)
	}
	if c = Next(c, 2, true, true); c.Level != 1 || !c.Frozen {
		t.Fatalf("it is frozen: %v", c)
	}
	if c = Next(c, 0, true, true); c.Level != 1 {
		t.Fatalf("it stays frozen: %v", c)
	}
}

// P18.1: the levels' numbers, as the examples tell them.
func TestLevelsAreNumbered(t *testing.T) {
	if api.NoLand != 0 || api.Land2 != 1 || api.Land3 != 2 {
		t.Error("the levels have other numbers")
	}
}

// P18.1: May of each Level and each Most: Level at most Most, and that a level; frozen or not.
func TestMayOfAll(t *testing.T) {
	many := 0
	all(func(c api.Cap) {
		kept := c
		if got := May(c); got != isGood(c) {
			t.Fatalf("May(%v) = %t", c, got)
		}
		if c != kept {
			t.Fatalf("May made %v of %v", c, kept)
		}
		if May(c) {
			many++
		}
	})
	if many != len(good()) {
		t.Errorf("%d may be", many)
	}
}

// P18.1: the edges of May, one by one.
func TestMayAtEdges(t *testing.T) {
	for _, frozen := range truths {
		for _, example := range []struct {
			level, most uint8
			want        bool
		}{
			{0, 0, true}, {1, 1, true}, {2, 2, true}, {0, 2, true}, {1, 2, true},
			{1, 0, false}, {2, 0, false}, {2, 1, false}, {3, 2, false}, {255, 2, false},
			{0, 3, false}, {2, 3, false}, {3, 3, false}, {4, 3, false},
			{0, 255, false}, {255, 255, false}, {255, 0, false},
		} {
			c := api.Cap{Level: example.level, Most: example.most, Frozen: frozen}
			if May(c) != example.want {
				t.Errorf("May(%v) = %t", c, !example.want)
			}
		}
	}
}

// P18.1: Worse of each Level and each Most is whether Level is below Most, of one that may not be too; frozen or not.
func TestWorseOfAll(t *testing.T) {
	many := 0
	all(func(c api.Cap) {
		kept := c
		if got := Worse(c); got != (c.Level < c.Most) {
			t.Fatalf("Worse(%v) = %t", c, got)
		}
		if c != kept {
			t.Fatalf("Worse made %v of %v", c, kept)
		}
		if Worse(c) {
			many++
		}
	})
	// Of 256 by 256 those on one side, each twice.
	if many != 256*255 {
		t.Errorf("%d are worse", many)
	}
}

// P18.1: with no approach going on Level and Most are best and it is not frozen: of a frozen one too, low or not.
func TestNextWithNoApproach(t *testing.T) {
	for _, c := range good() {
		for _, best := range levels() {
			for _, low := range truths {
				wantNext(t, c, best, false, low, api.Cap{Level: best, Most: best})
			}
		}
	}
}

// P18.1: with an approach going on a frozen one stays as it is, low or not, whatever level there is.
func TestNextOfFrozen(t *testing.T) {
	for _, c := range good() {
		c.Frozen = true
		for _, best := range levels() {
			for _, low := range truths {
				wantNext(t, c, best, true, low, c)
			}
		}
	}
}

// P18.1: with an approach going on one that is not frozen falls to a lesser best, keeps its Level at one that is not lesser, and its Most; it is frozen just if low.
func TestNextOfNotFrozen(t *testing.T) {
	for _, example := range []struct {
		level, best, want uint8
	}{
		{0, 0, 0}, {0, 1, 0}, {0, 2, 0},
		{1, 0, 0}, {1, 1, 1}, {1, 2, 1},
		{2, 0, 0}, {2, 1, 1}, {2, 2, 2},
	} {
		for most := example.level; most <= api.Land3; most++ {
			c := api.Cap{Level: example.level, Most: most}
			wantNext(t, c, example.best, true, false, api.Cap{Level: example.want, Most: most})
			wantNext(t, c, example.best, true, true, api.Cap{Level: example.want, Most: most, Frozen: true})
		}
	}
}

// P18.1: each capability that may be, each best, an approach going on and not, low and not, by the words; what comes of it may be.
func TestNextOfAllThatMayBe(t *testing.T) {
	for _, c := range good() {
		bests(func(best uint8) {
			for _, approach := range truths {
				for _, low := range truths {
					wantNext(t, c, best, approach, low, nextByWords(c, best, approach, low))
					if next := Next(c, best, approach, low); !May(next) {
						t.Fatalf("of %v came %v", c, next)
					}
				}
			}
		})
	}
}

// P18.1: of a best that is no level a zero one comes: frozen and not, an approach going on and not, low and not.
func TestNextOfBestThatIsNoLevel(t *testing.T) {
	for _, c := range good() {
		bests(func(best uint8) {
			if best <= 2 {
				return
			}
			for _, approach := range truths {
				for _, low := range truths {
					wantNext(t, c, best, approach, low, api.Cap{})
				}
			}
		})
	}
}

// P18.1: of a capability that may not be a zero one comes, with a best that is a level and one that is not.
func TestNextOfAllThatMayNotBe(t *testing.T) {
	many := 0
	all(func(c api.Cap) {
		if isGood(c) {
			return
		}
		many++
		for _, best := range []uint8{0, 1, 2, 3, 4, 255} {
			for _, approach := range truths {
				for _, low := range truths {
					wantNext(t, c, best, approach, low, api.Cap{})
				}
			}
		}
	})
	if many != 2*256*256-12 {
		t.Errorf("%d may not be", many)
	}
}

// P18.1: Level above Most, Most no level, and both, with and without an approach: nothing of it is left.
func TestNextOfSomeThatMayNotBe(t *testing.T) {
	for _, c := range []api.Cap{
		{Level: 1}, {Level: 2}, {Level: 2, Most: 1}, {Level: 255, Most: 2},
		{Level: 0, Most: 3}, {Level: 2, Most: 3}, {Level: 3, Most: 3}, {Level: 1, Most: 255}, {Level: 255, Most: 255},
		{Level: 4, Most: 3}, {Level: 255, Most: 254},
	} {
		for _, c.Frozen = range truths {
			for _, best := range levels() {
				for _, low := range truths {
					wantNext(t, c, best, false, low, api.Cap{})
					wantNext(t, c, best, true, low, api.Cap{})
				}
			}
		}
	}
}

// frame is what Next is told in one frame of an approach.
type frame struct {
	best uint8
	low  bool
}

// wantHeld asks, over the frames of an approach, that Level never rises, that it is the least of the one it began with and of each best up to the frame in which it was frozen, that Most stays, and that nothing changes once it is frozen.
func wantHeld(t *testing.T, began api.Cap, frames []frame) {
	t.Helper()
	c := began
	lowest := began.Level
	for i, f := range frames {
		before := c
		c = Next(c, f.best, true, f.low)
		if c.Level > before.Level || c.Most != began.Most {
			t.Fatalf("of %v frame %d of %v made %v", before, i, frames, c)
		}
		if before.Frozen {
			if c != before {
				t.Fatalf("frozen %v became %v in frame %d of %v", before, c, i, frames)
			}
			continue
		}
		lowest = min(lowest, f.best)
		if c.Level != lowest || c.Frozen != f.low {
			t.Fatalf("of %v frame %d of %v made %v", before, i, frames, c)
		}
	}
}

// P18.2: all approaches of six frames, from each capability that may be.
func TestHeldOverAllShortApproaches(t *testing.T) {
	const long = 6
	var frames [long]frame
	// Three levels, low or not: six kinds of frame.
	for code := range 6 * 6 * 6 * 6 * 6 * 6 {
		for i := range frames {
			frames[i] = frame{best: uint8(code % 6 >> 1), low: code%2 > 0}
			code /= 6
		}
		for _, began := range good() {
			wantHeld(t, began, frames[:])
		}
	}
}

// P18.2: long approaches, low from some frame on, or now and then, or never, by a rule that mixes them.
func TestHeldOverLongApproaches(t *testing.T) {
	n := uint32(17)
	mixed := func(below uint32) uint32 {
		n = n*1664525 + 1013904223
		return n >> 16 % below
	}
	for _, rarely := range []uint32{1, 2, 50, 1000, 65536} {
		for range 50 {
			// Few falls, or each level as often.
			least := uint8(mixed(3))
			frames := make([]frame, 400)
			for i := range frames {
				frames[i].best = max(least, uint8(mixed(3)))
				frames[i].low = mixed(rarely) == 0 && rarely < 65536
			}
			for _, began := range good() {
				wantHeld(t, began, frames)
			}
		}
	}
}

// P18.2: a best that is no level makes it a zero one, of which Level does not rise either, for as long as the approach goes on.
func TestLevelNeverRisesWhateverBest(t *testing.T) {
	for _, began := range good() {
		bests(func(first uint8) {
			for _, low := range truths {
				c := Next(began, first, true, low)
				bests(func(second uint8) {
					next := Next(c, second, true, false)
					if c.Level > began.Level || next.Level > c.Level {
						t.Fatalf("%v, %v, %v by %d, %d", began, c, next, first, second)
					}
				})
			}
		})
	}
}

// P18.2: behind an approach the level is there again, and the next approach is held by its own.
func TestNextApproachBeginsAnew(t *testing.T) {
	for _, began := range good() {
		for _, best := range levels() {
			c := Next(Next(Next(began, best, true, true), best, true, false), api.NoLand, true, true)
			c = Next(c, best, false, true)
			if c != (api.Cap{Level: best, Most: best}) || Worse(c) {
				t.Fatalf("of %v came %v", began, c)
			}
			for _, less := range levels() {
				wantHeld(t, c, []frame{{best, false}, {less, false}, {api.Land3, false}, {api.NoLand, true}, {api.Land3, true}})
				if got := Next(c, less, true, false); Worse(got) != (less < best) {
					t.Fatalf("Worse(%v) = %t", got, Worse(got))
				}
			}
		}
	}
}
