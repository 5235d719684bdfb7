package side

import (
	"math"
	"slices"
	"testing"

	"flarepath/api"
	"flarepath/table"
)

// truths are both of them.
var truths = [2]bool{false, true}

// gainsBegin are the least heights of each gain; below the first one it is 4 all the way down.
var gainsBegin = []struct{ height, gain int64 }{
	{0, 4}, {381, 5}, {762, 6}, {1143, 7}, {1524, 8}, {2667, 9}, {3810, 10}, {4953, 11},
	{6096, 12}, {12072, 13}, {18048, 14}, {24024, 15}, {30000, 16},
}

// at is a signal that is there.
func at(n int64) api.Voted { return api.Voted{Is: true, Value: n, Of: 3} }

// none is a signal that is not there, whatever its Value says.
func none(n int64) api.Voted { return api.Voted{Value: n, Of: 2} }

// mixer tells numbers by a rule that mixes them: the same ones each time.
type mixer uint64

// number is of any size, and of either sign.
func (m *mixer) number() int64 {
	*m = *m*6364136223846793005 + 1442695040888963407
	return int64(*m) >> (*m >> 58)
}

func (m *mixer) below(n int) int {
	return int(uint64(m.number()) % uint64(n))
}

// ends are the numbers next to both ends of int64.
func ends() []int64 {
	return []int64{math.MinInt64, math.MinInt64 + 1, math.MinInt64 + 2, math.MaxInt64 - 2, math.MaxInt64 - 1, math.MaxInt64}
}

// around tells each number, with those beside it, and the same on the other side of 0.
func around(numbers ...int64) []int64 {
	var all []int64
	for _, n := range numbers {
		all = append(all, n-1, n, n+1, -n-1, -n, -n+1)
	}
	return all
}

// heights are those at which the gain may change, those beside them, some between, some far off, and the ends.
func heights() []int64 {
	all := append(ends(), around(0, 100, 1000, 9000, 29000, 40000, 1<<17, 1<<31, 1<<32, 1<<40, 1<<50, 1<<62)...)
	for _, b := range gainsBegin {
		all = append(all, around(b.height)...)
	}
	return all
}

// heightsFor are those by which a mode is asked: all where it steers aside, few of them where it does not.
func heightsFor(mode int) []int64 {
	if mode >= api.Approach && mode <= api.Rollout {
		return heights()
	}
	return []int64{0, 762, math.MinInt64}
}

// values are what a signal may say: all near 0, the ends of what a command by each gain is, great ones, and the ends.
func values() []int64 {
	all := append(ends(), around(500, 1999, 2000, 2003, 2004, 2100, 10000, 1<<17, 1<<31, 1<<32, 1<<62)...)
	for n := int64(-45); n <= 45; n++ {
		all = append(all, n)
	}
	for gain := int64(4); gain <= 16; gain++ {
		all = append(all, around(gain, 10*gain, 11*gain, 19*gain, 20*gain, 21*gain)...)
	}
	return all
}

// lasts are what may be ahead of a command: the ends of what it may be, those beside them, and far off ones.
func lasts() []int64 {
	return append(ends(), around(0, 3, 9, 10, 11, 20, 99, 499, 500, 501, 1<<32)...)
}

// gainByWords reads the chapter's words, and the table's four points leg by leg.
func gainByWords(h api.Voted) int64 {
	n := h.Value
	switch {
	case !h.Is || n >= 30000:
		return 16
	case n >= 6096:
		return 12 + (n-6096)*4/(30000-6096)
	case n >= 1524:
		return 8 + (n-1524)*4/(6096-1524)
	case n >= 0:
		return 4 + n*4/1524
	}
	return 4
}

// steered tells the negative of a number by a gain: by how far it is from 0, and on which side.
func steered(n, gain, most int64) int64 {
	far := uint64(n)
	if n < 0 {
		far = -far
	}
	share := int64(min(far/uint64(gain), uint64(most)))
	if n > 0 {
		return -share
	}
	return share
}

// held tells what is held of a command, by its far end.
func held(last, most int64) int64 {
	return max(min(last, most), -most)
}

// sideByWords reads the chapter's words mode by mode.
func sideByWords(mode uint8, loc, h api.Voted, last int64) int64 {
	switch {
	case mode < 2 || mode > 5:
		return 0
	case !loc.Is:
		return held(last, 20)
	case mode == 5:
		return steered(loc.Value, 4, 10)
	}
	return steered(loc.Value, gainByWords(h), 20)
}

// turnByWords reads the chapter's words mode by mode.
func turnByWords(mode uint8, drift api.Voted, last int64) int64 {
	switch {
	case mode != 4 && mode != 5:
		return 0
	case !drift.Is:
		return held(last, 500)
	}
	return steered(drift.Value, 4, 500)
}

// wantGain asks Gain, and whether what was handed in stays as it is.
func wantGain(t *testing.T, h api.Voted, want int64) {
	t.Helper()
	kept := h
	if got := Gain(h); got != want {
		t.Fatalf("Gain(%v) = %d, not %d", h, got, want)
	}
	if h != kept {
		t.Fatalf("Gain made %v of %v", h, kept)
	}
}

// wantSide asks Side, and whether what was handed in stays as it is.
func wantSide(t *testing.T, mode uint8, loc, h api.Voted, last, want int64) {
	t.Helper()
	keptLoc, keptH := loc, h
	if got := Side(mode, loc, h, last); got != want {
		t.Fatalf("Side(%d, %v, %v, %d) = %d, not %d", mode, loc, h, last, got, want)
	}
	if loc != keptLoc || h != keptH {
		t.Fatalf("Side made %v and %v of %v and %v", loc, h, keptLoc, keptH)
	}
}

// wantTurn asks Turn, and whether what was handed in stays as it is.
func wantTurn(t *testing.T, mode uint8, drift api.Voted, last, want int64) {
	t.Helper()
	kept := drift
	if got := Turn(mode, drift, last); got != want {
		t.Fatalf("Turn(%d, %v, %d) = %d, not %d", mode, drift, last, got, want)
	}
	if drift != kept {
		t.Fatalf("Turn made %v of %v", drift, kept)
	}
}

// The chapter's table of examples.
func TestExamples(t *testing.T) {
	wantGain(t, at(762), 6)
	wantGain(t, api.Voted{}, 16)
	wantSide(t, api.Approach, at(100), at(762), 0, -16)
	wantSide(t, api.Approach, at(-900), at(762), 0, 20)
	wantSide(t, api.Rollout, at(100), at(0), 0, -10)
	wantSide(t, api.Flare, api.Voted{}, at(762), 7, 7)
	wantSide(t, api.Off, at(100), at(0), 3, 0)
	wantTurn(t, api.Align, at(-4000), 0, 500)
	wantTurn(t, api.Flare, at(9), 9, 0)
}

// P23.1: the modes' numbers, by which the tests below count.
func TestNumbers(t *testing.T) {
	modes := [7]int{api.Off, api.Armed, api.Approach, api.Flare, api.Align, api.Rollout, api.Around}
	if modes != [7]int{0, 1, 2, 3, 4, 5, 6} {
		t.Errorf("the modes are %v", modes)
	}
}

// P23.1: Gain of a height that is not there is 16, whatever its Value says.
func TestGainOfNone(t *testing.T) {
	wantGain(t, api.Voted{}, 16)
	for _, n := range heights() {
		wantGain(t, none(n), 16)
		wantGain(t, api.Voted{Value: n}, 16)
	}
}

// P23.1: Gain at each point of the table, below the first and above the last one, and at the ends, one by one.
func TestGainAtPoints(t *testing.T) {
	for _, example := range []struct{ height, want int64 }{
		{math.MinInt64, 4}, {math.MinInt64 + 1, 4}, {-1 << 40, 4}, {-30000, 4}, {-1524, 4}, {-1, 4},
		{0, 4}, {1, 4}, {1523, 7}, {1524, 8}, {1525, 8}, {6095, 11}, {6096, 12}, {6097, 12}, {29999, 15}, {30000, 16}, {30001, 16},
		{31524, 16}, {60000, 16}, {1 << 40, 16}, {1<<40 + 1, 16}, {math.MaxInt64 - 1, 16}, {math.MaxInt64, 16},
	} {
		wantGain(t, at(example.height), example.want)
	}
}

// P23.1: each gain begins where it is to begin, and lasts until the next one does.
func TestGainBegins(t *testing.T) {
	for i, b := range gainsBegin {
		wantGain(t, at(b.height), b.gain)
		if i > 0 {
			before := gainsBegin[i-1]
			wantGain(t, at(b.height-1), before.gain)
			wantGain(t, at((b.height+before.height)/2), before.gain)
		}
	}
}

// P23.1: Gain of all heights from below the first to above the last point, and of those far off: by the words, and by the table itself.
func TestGainByWords(t *testing.T) {
	all := heights()
	for n := int64(-2000); n <= 32000; n++ {
		all = append(all, n)
	}
	for _, n := range all {
		said, errno := table.At(table.Gains(), n)
		if errno != api.OK {
			t.Fatalf("the table says %v of %d", errno, n)
		}
		wantGain(t, at(n), said)
		wantGain(t, at(n), gainByWords(at(n)))
	}
}

// P23.1: in Approach, Flare and Align Side is by each gain that there is: 0 nearer to 0 than the gain, and 20 from 0 at most.
func TestSideByEachGain(t *testing.T) {
	for _, mode := range []uint8{api.Approach, api.Flare, api.Align} {
		for _, b := range gainsBegin {
			h, g := at(b.height), b.gain
			for _, side := range []int64{1, -1} {
				for _, example := range []struct{ loc, want int64 }{
					{0, 0}, {1, 0}, {g - 1, 0}, {g, -1}, {g + 1, -1}, {2*g - 1, -1}, {2 * g, -2},
					{10 * g, -10}, {11 * g, -11}, {19 * g, -19}, {20*g - 1, -19},
					{20 * g, -20}, {20*g + 1, -20}, {21*g - 1, -20}, {21 * g, -20}, {40 * g, -20}, {1 << 40, -20}, {math.MaxInt64, -20},
				} {
					wantSide(t, mode, at(side*example.loc), h, 5, side*example.want)
				}
			}
			wantSide(t, mode, at(math.MinInt64), h, 5, 20)
			wantSide(t, mode, at(math.MinInt64+1), h, 5, 20)
		}
	}
}

// P23.1: in Approach, Flare and Align Side is by 16 where there is no height, whatever its Value says.
func TestSideWithoutHeight(t *testing.T) {
	for _, mode := range []uint8{api.Approach, api.Flare, api.Align} {
		for _, n := range heights() {
			for _, example := range []struct{ loc, want int64 }{
				{0, 0}, {15, 0}, {-15, 0}, {16, -1}, {-16, 1}, {31, -1}, {-32, 2}, {319, -19}, {-319, 19}, {320, -20}, {-320, 20},
				{336, -20}, {-336, 20}, {math.MaxInt64, -20}, {math.MinInt64, 20},
			} {
				wantSide(t, mode, at(example.loc), none(n), -7, example.want)
			}
		}
	}
}

// P23.1: in Rollout Side is by 4, and 10 from 0 at most, whatever the height is, there or not.
func TestSideInRollout(t *testing.T) {
	for _, n := range heights() {
		for _, h := range []api.Voted{at(n), none(n)} {
			for _, example := range []struct{ loc, want int64 }{
				{0, 0}, {1, 0}, {3, 0}, {4, -1}, {7, -1}, {8, -2}, {36, -9}, {39, -9}, {40, -10}, {41, -10}, {43, -10}, {44, -10},
				{80, -10}, {100, -10}, {1 << 40, -10}, {math.MaxInt64, -10},
			} {
				wantSide(t, api.Rollout, at(example.loc), h, 5, example.want)
				wantSide(t, api.Rollout, at(-example.loc), h, 5, -example.want)
			}
			wantSide(t, api.Rollout, at(math.MinInt64), h, 5, 10)
			wantSide(t, api.Rollout, at(math.MinInt64+1), h, 5, 10)
		}
	}
}

// P23.1: where Loc is not there, whatever its Value says, Side is the one ahead of it, at most 20 from 0; in Rollout too.
func TestSideHeld(t *testing.T) {
	for _, mode := range []uint8{api.Approach, api.Flare, api.Align, api.Rollout} {
		for _, example := range []struct{ last, want int64 }{
			{0, 0}, {1, 1}, {-1, -1}, {7, 7}, {-7, -7}, {9, 9}, {10, 10}, {-10, -10}, {11, 11}, {-11, -11}, {15, 15},
			{19, 19}, {-19, -19}, {20, 20}, {-20, -20}, {21, 20}, {-21, -20}, {22, 20}, {-99, -20}, {500, 20},
			{1 << 40, 20}, {-1 << 40, -20}, {math.MaxInt64, 20}, {math.MaxInt64 - 1, 20}, {math.MinInt64, -20}, {math.MinInt64 + 1, -20},
		} {
			for _, n := range values() {
				wantSide(t, mode, none(n), at(762), example.last, example.want)
				wantSide(t, mode, none(n), at(n), example.last, example.want)
				wantSide(t, mode, api.Voted{Value: n}, none(n), example.last, example.want)
			}
		}
	}
}

// P23.1: in all other modes Side is 0, whatever is there, and whatever was ahead of it.
func TestSideInOtherModes(t *testing.T) {
	for mode := range 256 {
		if mode >= api.Approach && mode <= api.Rollout {
			continue
		}
		for _, last := range lasts() {
			for _, n := range []int64{0, 3, -100, 900, math.MinInt64, math.MaxInt64} {
				for _, h := range []api.Voted{at(762), none(762), at(n)} {
					wantSide(t, uint8(mode), at(n), h, last, 0)
					wantSide(t, uint8(mode), none(n), h, last, 0)
				}
			}
		}
	}
}

// P23.1: Side of each mode of 0 to 255, Loc and the height there and not there, by the words.
func TestSideByWords(t *testing.T) {
	locs, before := values(), lasts()
	for mode := range 256 {
		heights := heightsFor(mode)
		for i, n := range locs {
			for k, height := range heights {
				last := before[(i+k)%len(before)]
				for _, locIs := range truths {
					for _, heightIs := range truths {
						loc, h := api.Voted{Is: locIs, Value: n, Of: 3}, api.Voted{Is: heightIs, Value: height, Of: 2}
						wantSide(t, uint8(mode), loc, h, last, sideByWords(uint8(mode), loc, h, last))
					}
				}
			}
		}
	}
}

// P23.1: in Align and Rollout Turn is by 4, and 500 from 0 at most.
func TestTurnSteers(t *testing.T) {
	for _, mode := range []uint8{api.Align, api.Rollout} {
		for _, example := range []struct{ drift, want int64 }{
			{0, 0}, {1, 0}, {3, 0}, {4, -1}, {5, -1}, {7, -1}, {8, -2}, {41, -10}, {400, -100},
			{1996, -499}, {1999, -499}, {2000, -500}, {2001, -500}, {2003, -500}, {2004, -500}, {4000, -500}, {1 << 40, -500}, {math.MaxInt64, -500},
		} {
			wantTurn(t, mode, at(example.drift), 9, example.want)
			wantTurn(t, mode, at(-example.drift), 9, -example.want)
		}
		wantTurn(t, mode, at(math.MinInt64), 9, 500)
		wantTurn(t, mode, at(math.MinInt64+1), 9, 500)
	}
}

// P23.1: where Drift is not there, whatever its Value says, Turn is the one ahead of it, at most 500 from 0.
func TestTurnHeld(t *testing.T) {
	for _, mode := range []uint8{api.Align, api.Rollout} {
		for _, example := range []struct{ last, want int64 }{
			{0, 0}, {1, 1}, {-9, -9}, {20, 20}, {21, 21}, {-21, -21}, {499, 499}, {-499, -499}, {500, 500}, {-500, -500},
			{501, 500}, {-501, -500}, {502, 500}, {999, 500}, {-1000, -500}, {1 << 40, 500}, {-1 << 40, -500},
			{math.MaxInt64, 500}, {math.MaxInt64 - 1, 500}, {math.MinInt64, -500}, {math.MinInt64 + 1, -500},
		} {
			for _, n := range values() {
				wantTurn(t, mode, none(n), example.last, example.want)
				wantTurn(t, mode, api.Voted{Value: n}, example.last, example.want)
			}
		}
	}
}

// P23.1: in all other modes Turn is 0, whatever is there, and whatever was ahead of it.
func TestTurnInOtherModes(t *testing.T) {
	for mode := range 256 {
		if mode == api.Align || mode == api.Rollout {
			continue
		}
		for _, last := range lasts() {
			for _, n := range []int64{0, 3, -9, 400, -4000, math.MinInt64, math.MaxInt64} {
				wantTurn(t, uint8(mode), at(n), last, 0)
				wantTurn(t, uint8(mode), none(n), last, 0)
			}
		}
	}
}

// P23.1: Turn of each mode of 0 to 255, Drift there and not there, by the words.
func TestTurnByWords(t *testing.T) {
	m := mixer(23)
	drifts, before := values(), lasts()
	for mode := range 256 {
		for i, n := range drifts {
			for _, last := range []int64{before[i%len(before)], before[(i*7+mode)%len(before)], m.number()} {
				for _, is := range truths {
					drift := api.Voted{Is: is, Value: n, Of: 1}
					wantTurn(t, uint8(mode), drift, last, turnByWords(uint8(mode), drift, last))
				}
			}
		}
	}
}

// P23.1: of how many sources a signal is changes nothing.
func TestWhateverOfSays(t *testing.T) {
	for _, of := range []int{-1, 0, 1, 2, 3, 4, math.MinInt, math.MaxInt} {
		for _, n := range values() {
			for _, is := range truths {
				v := api.Voted{Is: is, Value: n, Of: of}
				wantGain(t, v, gainByWords(v))
				for mode := range uint8(8) {
					wantSide(t, mode, v, at(762), 12, sideByWords(mode, v, at(762), 12))
					wantSide(t, mode, at(90), v, 12, sideByWords(mode, at(90), v, 12))
					wantTurn(t, mode, v, 12, turnByWords(mode, v, 12))
				}
			}
		}
	}
}

// P23.1: what was ahead of a command changes nothing where its signal is there.
func TestWhateverWasAhead(t *testing.T) {
	for _, mode := range []uint8{0, 1, 2, 3, 4, 5, 6, 7, 8, 128, 130, 255} {
		for _, n := range values() {
			side, turn := Side(mode, at(n), at(3810), 0), Turn(mode, at(n), 0)
			for _, last := range lasts() {
				wantSide(t, mode, at(n), at(3810), last, side)
				wantTurn(t, mode, at(n), last, turn)
			}
		}
	}
}

// numbers are many on both sides of 0: small ones, great ones, and the ends.
func numbers() []int64 {
	all := values()
	for n := int64(-2500); n <= 2500; n += 7 {
		all = append(all, n)
	}
	m := mixer(5)
	for range 500 {
		all = append(all, m.number())
	}
	return all
}

// wantBack fails, if a command goes away from the middle.
func wantBack(t *testing.T, what string, mode uint8, n, command int64) {
	t.Helper()
	if n > 0 && command > 0 || n < 0 && command < 0 || n == 0 && command != 0 {
		t.Fatalf("%s in the mode %d goes %d, for %d", what, mode, command, n)
	}
}

// P23.2: a command is not of the sign of what it steers by, in each mode, over many numbers and heights.
func TestNeverAwayFromTheMiddle(t *testing.T) {
	many := numbers()
	for mode := range 256 {
		heights := heightsFor(mode)
		mode := uint8(mode)
		for i, n := range many {
			last := int64(i%3-1) * 20
			wantBack(t, "Turn", mode, n, Turn(mode, at(n), 25*last))
			for k, height := range heights {
				h := api.Voted{Is: (i+k)%9 != 0, Value: height}
				wantBack(t, "Side", mode, n, Side(mode, at(n), h, last))
			}
		}
	}
}

// P23.2: for the number on the other side of 0 the command is the other way round.
func TestTheOtherWayRound(t *testing.T) {
	many := numbers()
	for mode := range 256 {
		heights := heightsFor(mode)
		mode := uint8(mode)
		for i, n := range many {
			if n == math.MinInt64 {
				continue // there is none on its other side
			}
			wantTurn(t, mode, at(-n), 3, -Turn(mode, at(n), 3))
			for k, height := range heights {
				h := api.Voted{Is: (i+k)%9 != 0, Value: height}
				wantSide(t, mode, at(-n), h, 3, -Side(mode, at(n), h, 3))
			}
		}
	}
}

// P23.2: steered by its own commands from within their reach, it comes to where the gain leaves it, and never passes the middle.
func TestComesToTheMiddle(t *testing.T) {
	for mode := range uint8(8) {
		for _, b := range gainsBegin {
			for _, from := range []int64{0, 1, -5, 99, -300, 2000, -2000} {
				where := from
				for range 600 {
					next := where + Side(mode, at(where), at(b.height), 0)
					if next > max(where, 0) || next < min(where, 0) {
						t.Fatalf("the mode %d leads from %d to %d", mode, where, next)
					}
					where = next
				}
				gain := b.gain
				if mode == api.Rollout {
					gain = 4
				}
				if steers := mode >= api.Approach && mode <= api.Rollout; steers && (where >= gain || where <= -gain) || !steers && where != from {
					t.Fatalf("the mode %d leads from %d to %d at last", mode, from, where)
				}
			}
		}
	}
}

// asked is what is asked once: of Gain, of Side and of Turn.
type asked struct {
	mode   uint8
	v, h   api.Voted
	last   int64
	answer [3]int64
}

func (a asked) ask() [3]int64 {
	return [3]int64{Gain(a.h), Side(a.mode, a.v, a.h, a.last), Turn(a.mode, a.v, a.last)}
}

// What a call answers hangs on nothing that was asked before it: the same answers come forwards, backwards, and out of order.
func TestAskedAgain(t *testing.T) {
	m := mixer(230)
	var all []asked
	for range 5000 {
		a := asked{
			mode: uint8(m.below(9)),
			v:    api.Voted{Is: m.below(4) != 0, Value: m.number(), Of: m.below(4)},
			h:    api.Voted{Is: m.below(4) != 0, Value: m.number() % 40000, Of: m.below(4)},
			last: m.number() % 600,
		}
		if m.below(2) == 0 {
			a.v.Value %= 3000
		}
		a.answer = a.ask()
		if want := [3]int64{gainByWords(a.h), sideByWords(a.mode, a.v, a.h, a.last), turnByWords(a.mode, a.v, a.last)}; a.answer != want {
			t.Fatalf("%+v: not %v", a, want)
		}
		all = append(all, a)
	}
	for _, a := range slices.Backward(all) {
		if again := a.ask(); again != a.answer {
			t.Fatalf("%+v: now %v", a, again)
		}
	}
	for range all {
		a := all[m.below(len(all))]
		if again := a.ask(); again != a.answer {
			t.Fatalf("%+v: at last %v", a, again)
		}
	}
}

// What a caller does to the table of the gains changes nothing.
func TestTableChangedByOthers(t *testing.T) {
	points := table.Gains()
	for i := range points {
		points[i] = [2]int64{int64(i), 1000}
	}
	wantGain(t, at(762), 6)
	wantSide(t, api.Approach, at(100), at(762), 0, -16)
}
