package sink

import (
	"math"
	"math/big"
	"slices"
	"testing"

	"flarepath/api"
)

// truths are both of them.
var truths = [2]bool{false, true}

// at is a signal that is there.
func at(n int64) api.Voted { return api.Voted{Is: true, Value: n, Of: 3} }

// none is a signal that is not there, whatever its Value says.
func none(n int64) api.Voted { return api.Voted{Value: n, Of: 2} }

// mixer tells numbers by a rule that mixes them: the same ones each time.
type mixer uint64

// number is of any size, and of either sign.
func (m *mixer) number() int64 {
	*m = *m*6364136223846793005 + 1442695040888963407
	return int64(*m) >> (*m >> 58)
}

func (m *mixer) below(n int) int {
	return int(uint64(m.number()) % uint64(n))
}

// ends are the numbers next to both ends of int64.
func ends() []int64 {
	return []int64{math.MinInt64, math.MinInt64 + 1, math.MinInt64 + 2, math.MaxInt64 - 2, math.MaxInt64 - 1, math.MaxInt64}
}

// around tells each number, with those beside it, and the same on the other side of 0.
func around(numbers ...int64) []int64 {
	var all []int64
	for _, n := range numbers {
		all = append(all, n-1, n, n+1, -n-1, -n, -n+1)
	}
	return all
}

// glides are all from where Glide sinks least to where it sinks most and a little beyond, great ones, and the ends.
func glides() []int64 {
	all := append(ends(), around(100, 144, 900, 1<<17, 1<<31, 1<<32, 1<<40, 1<<62)...)
	for n := int64(-60); n <= 60; n++ {
		all = append(all, n)
	}
	return all
}

// heights are each hundred from below the ground to above the flare, those beside it, some between, great ones, and the ends.
func heights() []int64 {
	all := append(ends(), around(50, 149, 1524, 9000, 30000, 99999, 1<<17, 1<<31, 1<<32, 1<<40, 1<<62)...)
	for n := int64(0); n <= 2000; n += 100 {
		all = append(all, around(n)...)
	}
	return all
}

// lasts are what may be ahead of it: all from well below to well above what is held, great ones, and the ends.
func lasts() []int64 {
	all := append(ends(), around(99, 500, 1<<31, 1<<32, 1<<62)...)
	for n := int64(-30); n <= 30; n++ {
		all = append(all, n)
	}
	return all
}

// someLasts are what is held, its ends, those beside them, and the ends of int64.
func someLasts() []int64 {
	return append(ends(), -21, -20, -19, 0, 9, 23, 24, 25)
}

// sum tells begin and n by part, towards 0, not below least, not above most: by numbers that have no ends.
func sum(begin, n, part, least, most int64) int64 {
	all := new(big.Int).Quo(big.NewInt(n), big.NewInt(part))
	all.Add(all, big.NewInt(begin))
	switch {
	case all.Cmp(big.NewInt(least)) < 0:
		return least
	case all.Cmp(big.NewInt(most)) > 0:
		return most
	}
	return all.Int64()
}

// heldByWords tells the one ahead, or the next one that is -20 to 24.
func heldByWords(last int64) int64 {
	return min(max(last, -20), 24)
}

// sinkByWords reads the chapter's words mode by mode.
func sinkByWords(mode uint8, glide, h api.Voted, last int64) int64 {
	switch {
	case mode == 6:
		return -20
	case mode < 2 || mode > 4:
		return 0
	case mode == 2 && glide.Is:
		return sum(18, glide.Value, 8, 12, 24)
	case mode != 2 && h.Is:
		return sum(3, h.Value, 100, 3, 18)
	}
	return heldByWords(last)
}

// wantSink asks Sink, and whether what was handed in stays as it is.
func wantSink(t *testing.T, mode uint8, glide, h api.Voted, last, want int64) {
	t.Helper()
	keptGlide, keptH := glide, h
	if got := Sink(mode, glide, h, last); got != want {
		t.Fatalf("Sink(%d, %v, %v, %d) = %d, not %d", mode, glide, h, last, got, want)
	}
	if glide != keptGlide || h != keptH {
		t.Fatalf("Sink made %v and %v of %v and %v", glide, h, keptGlide, keptH)
	}
}

func wantFlared(t *testing.T, h, want int64) {
	t.Helper()
	if got := Flared(h); got != want {
		t.Fatalf("Flared(%d) = %d, not %d", h, got, want)
	}
}

func wantHeld(t *testing.T, last, want int64) {
	t.Helper()
	if got := Held(last); got != want {
		t.Fatalf("Held(%d) = %d, not %d", last, got, want)
	}
}

// The chapter's table of examples.
func TestExamples(t *testing.T) {
	wantSink(t, api.Approach, at(100), at(9000), 0, 24)
	wantSink(t, api.Approach, at(-20), at(9000), 0, 16)
	wantFlared(t, 1524, 18)
	wantFlared(t, 99, 3)
	wantFlared(t, -500, 3)
	wantSink(t, api.Flare, at(0), api.Voted{}, 12, 12)
	wantSink(t, api.Around, at(0), at(0), 0, -20)
	wantSink(t, api.Rollout, at(0), at(0), 9, 0)
	wantHeld(t, 99, 24)
}

// P24.1: the modes' numbers, by which the tests below count.
func TestNumbers(t *testing.T) {
	modes := [7]int{api.Off, api.Armed, api.Approach, api.Flare, api.Align, api.Rollout, api.Around}
	if modes != [7]int{0, 1, 2, 3, 4, 5, 6} {
		t.Errorf("the modes are %v", modes)
	}
}

// approached are values of Glide, and what they come to in Approach.
var approached = []struct{ glide, want int64 }{
	{0, 18}, {1, 18}, {-1, 18}, {7, 18}, {-7, 18}, {8, 19}, {-8, 17}, {9, 19}, {-9, 17}, {15, 19}, {-15, 17}, {16, 20}, {-16, 16},
	{20, 20}, {-20, 16}, {23, 20}, {-23, 16}, {24, 21}, {-24, 15}, {32, 22}, {-32, 14}, {39, 22}, {-39, 14},
	{40, 23}, {-40, 13}, {47, 23}, {-47, 13}, {48, 24}, {-48, 12}, {49, 24}, {-49, 12}, {55, 24}, {-55, 12}, {56, 24}, {-56, 12},
	{57, 24}, {-57, 12}, {64, 24}, {-64, 12}, {100, 24}, {-100, 12}, {900, 24}, {-900, 12}, {1 << 40, 24}, {-1 << 40, 12},
	{math.MaxInt64, 24}, {math.MaxInt64 - 1, 24}, {math.MinInt64, 12}, {math.MinInt64 + 1, 12},
}

// P24.1: in Approach Sink is 18 and Glide by 8, not further than 6 from 18, whatever the height, there or not.
func TestSinkInApproach(t *testing.T) {
	for _, example := range approached {
		for _, n := range heights() {
			wantSink(t, api.Approach, at(example.glide), at(n), 5, example.want)
			wantSink(t, api.Approach, at(example.glide), none(n), 5, example.want)
		}
	}
}

// flared are heights, and what they come to in Flare and Align.
var flared = []struct{ height, want int64 }{
	{math.MinInt64, 3}, {math.MinInt64 + 1, 3}, {-1 << 40, 3}, {-1500, 3}, {-500, 3}, {-101, 3}, {-100, 3}, {-99, 3}, {-1, 3},
	{0, 3}, {1, 3}, {50, 3}, {99, 3}, {100, 4}, {101, 4}, {150, 4}, {199, 4}, {200, 5}, {201, 5}, {299, 5}, {300, 6}, {301, 6},
	{399, 6}, {400, 7}, {401, 7}, {499, 7}, {500, 8}, {501, 8}, {599, 8}, {600, 9}, {601, 9}, {699, 9}, {700, 10}, {701, 10},
	{799, 10}, {800, 11}, {801, 11}, {899, 11}, {900, 12}, {901, 12}, {999, 12}, {1000, 13}, {1001, 13}, {1099, 13}, {1100, 14}, {1101, 14},
	{1199, 14}, {1200, 15}, {1201, 15}, {1299, 15}, {1300, 16}, {1301, 16}, {1399, 16}, {1400, 17}, {1401, 17},
	{1499, 17}, {1500, 18}, {1501, 18}, {1524, 18}, {1599, 18}, {1600, 18}, {1601, 18}, {1700, 18}, {9000, 18}, {99999, 18}, {1 << 40, 18},
	{math.MaxInt64 - 2, 18}, {math.MaxInt64 - 1, 18}, {math.MaxInt64, 18},
}

// P24.1: in Flare and Align Sink is 3 and the height by 100, not below 3, not above 18, whatever Glide, there or not.
func TestSinkInFlareAndAlign(t *testing.T) {
	for _, mode := range []uint8{api.Flare, api.Align} {
		for _, example := range flared {
			for _, n := range glides() {
				wantSink(t, mode, at(n), at(example.height), 5, example.want)
				wantSink(t, mode, none(n), at(example.height), 5, example.want)
			}
		}
	}
}

// P24.1: Flared tells what a height comes to in Flare.
func TestFlared(t *testing.T) {
	for _, example := range flared {
		wantFlared(t, example.height, example.want)
	}
	all := heights()
	for n := int64(-2000); n <= 4000; n++ {
		all = append(all, n)
	}
	for _, n := range all {
		wantFlared(t, n, sum(3, n, 100, 3, 18))
		wantFlared(t, n, Sink(api.Flare, none(0), at(n), 9))
	}
}

// beyond are what may be ahead, and what is held of it.
var beyond = []struct{ last, want int64 }{
	{0, 0}, {1, 1}, {-1, -1}, {3, 3}, {9, 9}, {12, 12}, {18, 18}, {-18, -18}, {19, 19}, {-19, -19}, {20, 20}, {-20, -20}, {21, 21}, {-21, -20},
	{22, 22}, {-22, -20}, {23, 23}, {-23, -20}, {24, 24}, {-24, -20}, {25, 24}, {-25, -20}, {26, 24}, {99, 24}, {-99, -20}, {500, 24}, {-500, -20},
	{1 << 32, 24}, {-1 << 32, -20}, {math.MaxInt64, 24}, {math.MaxInt64 - 1, 24}, {math.MinInt64, -20}, {math.MinInt64 + 1, -20},
}

// P24.1: Held tells a last of -20 to 24 as it is, of another one the next one that is.
func TestHeld(t *testing.T) {
	for _, example := range beyond {
		wantHeld(t, example.last, example.want)
	}
	for n := int64(-300); n <= 300; n++ {
		wantHeld(t, n, heldByWords(n))
	}
}

// P24.1: where Glide is not there in Approach, whatever its Value says, and whatever the height, Sink is the one ahead of it, held.
func TestSinkHeldInApproach(t *testing.T) {
	for _, example := range beyond {
		for _, n := range glides() {
			wantSink(t, api.Approach, none(n), at(9000), example.last, example.want)
			wantSink(t, api.Approach, none(n), at(n), example.last, example.want)
			wantSink(t, api.Approach, none(n), none(n), example.last, example.want)
			wantSink(t, api.Approach, api.Voted{Value: n}, api.Voted{}, example.last, example.want)
		}
	}
}

// P24.1: where the height is not there in Flare and Align, whatever its Value says, and whatever Glide, Sink is the one ahead of it, held.
func TestSinkHeldInFlareAndAlign(t *testing.T) {
	for _, mode := range []uint8{api.Flare, api.Align} {
		for _, example := range beyond {
			for _, n := range heights() {
				wantSink(t, mode, at(100), none(n), example.last, example.want)
				wantSink(t, mode, at(n), none(n), example.last, example.want)
				wantSink(t, mode, none(n), none(n), example.last, example.want)
				wantSink(t, mode, api.Voted{}, api.Voted{Value: n}, example.last, example.want)
			}
		}
	}
}

// P24.1: in Around Sink is -20, in Rollout and all other modes 0, whatever is there, and whatever was ahead of it.
func TestSinkByNothing(t *testing.T) {
	for mode := range 256 {
		if mode >= api.Approach && mode <= api.Align {
			continue
		}
		want := int64(0)
		if mode == api.Around {
			want = -20
		}
		for _, last := range lasts() {
			for _, n := range []int64{0, 7, -20, 100, 900, math.MinInt64, math.MaxInt64} {
				for _, other := range []api.Voted{at(1500), none(1500), at(n)} {
					wantSink(t, uint8(mode), at(n), other, last, want)
					wantSink(t, uint8(mode), none(n), other, last, want)
					wantSink(t, uint8(mode), other, none(n), last, want)
				}
			}
		}
	}
}

// P24.1: Sink of each mode of 0 to 255, Glide and the height there and not there, by the words.
func TestSinkByWords(t *testing.T) {
	beams, heights, before := glides(), heights(), someLasts()
	for mode := range 256 {
		for i, n := range beams {
			for k := i % 5; k < len(heights); k += 5 {
				last := before[(i+k)%len(before)]
				for _, glideIs := range truths {
					for _, heightIs := range truths {
						glide, h := api.Voted{Is: glideIs, Value: n, Of: 3}, api.Voted{Is: heightIs, Value: heights[k], Of: 2}
						wantSink(t, uint8(mode), glide, h, last, sinkByWords(uint8(mode), glide, h, last))
					}
				}
			}
		}
	}
}

// P24.1: of how many sources a signal is changes nothing.
func TestWhateverOfSays(t *testing.T) {
	for _, of := range []int{-1, 0, 1, 2, 3, 4, math.MinInt, math.MaxInt} {
		for _, n := range append(glides(), heights()...) {
			for _, is := range truths {
				v := api.Voted{Is: is, Value: n, Of: of}
				for mode := range uint8(8) {
					wantSink(t, mode, v, at(762), 11, sinkByWords(mode, v, at(762), 11))
					wantSink(t, mode, at(30), v, 11, sinkByWords(mode, at(30), v, 11))
				}
			}
		}
	}
}

// P24.1: what was ahead of it changes nothing where what it goes by is there, or where it goes by nothing.
func TestWhateverWasAhead(t *testing.T) {
	for _, mode := range []uint8{0, 1, 2, 3, 4, 5, 6, 7, 8, 128, 130, 255} {
		for _, n := range append(glides(), heights()...) {
			both, glide, height := Sink(mode, at(n), at(n), 0), Sink(api.Approach, at(n), none(n), 0), Sink(api.Align, none(n), at(n), 0)
			for _, last := range someLasts() {
				wantSink(t, mode, at(n), at(n), last, both)
				wantSink(t, api.Approach, at(n), none(n), last, glide)
				wantSink(t, api.Align, none(n), at(n), last, height)
			}
		}
	}
}

// manyHeights are small ones, great ones, those below 0, and the ends, rising.
func manyHeights() []int64 {
	all := heights()
	for n := int64(-500); n <= 2500; n += 13 {
		all = append(all, n)
	}
	m := mixer(24)
	for range 300 {
		all = append(all, m.number())
	}
	slices.Sort(all)
	return all
}

// P24.2: in Flare and Align, where the height is there, it sinks by 3 to 18, and by no more of the lower one than of the higher one.
func TestTheLessTheLower(t *testing.T) {
	all := manyHeights()
	for _, mode := range []uint8{api.Flare, api.Align} {
		for i, low := range all {
			slow := Sink(mode, at(low), at(low), 24)
			if slow < 3 || slow > 18 {
				t.Fatalf("in the mode %d at %d it sinks by %d", mode, low, slow)
			}
			for _, high := range all[i:] {
				if fast := Sink(mode, none(low), at(high), -20); fast < slow {
					t.Fatalf("in the mode %d it sinks by %d at %d, by %d at %d", mode, slow, low, fast, high)
				}
				if Flared(high) < Flared(low) {
					t.Fatalf("Flared sinks by %d at %d, by %d at %d", Flared(low), low, Flared(high), high)
				}
			}
		}
	}
}

// P24.2: from above the flare down to the ground it sinks by each of 18 to 3, one behind the other, and none is left out.
func TestEachOnTheWayDown(t *testing.T) {
	for _, mode := range []uint8{api.Flare, api.Align} {
		var passed []int64
		for h := int64(1800); h >= -200; h-- {
			if n := Sink(mode, at(0), at(h), 0); len(passed) == 0 || passed[len(passed)-1] != n {
				passed = append(passed, n)
			}
		}
		if want := []int64{18, 17, 16, 15, 14, 13, 12, 11, 10, 9, 8, 7, 6, 5, 4, 3}; !slices.Equal(passed, want) {
			t.Fatalf("in the mode %d it sinks by %v", mode, passed)
		}
	}
}

// P24.1: whatever Sink tells is -20 to 24: what is held of it is itself.
func TestIsHeldAsItIs(t *testing.T) {
	m := mixer(2)
	for range 50000 {
		n := Sink(uint8(m.below(256)), api.Voted{Is: m.below(2) == 0, Value: m.number()}, api.Voted{Is: m.below(2) == 0, Value: m.number()}, m.number())
		if n < -20 || n > 24 {
			t.Fatalf("Sink = %d", n)
		}
		wantHeld(t, n, n)
	}
}

// asked is what is asked once: of Sink, of Flared and of Held.
type asked struct {
	mode     uint8
	glide, h api.Voted
	last     int64
	answer   [3]int64
}

func (a asked) ask() [3]int64 {
	return [3]int64{Sink(a.mode, a.glide, a.h, a.last), Flared(a.h.Value), Held(a.last)}
}

// What a call answers hangs on nothing that was asked before it: the same answers come forwards, backwards, and out of order.
func TestAskedAgain(t *testing.T) {
	m := mixer(240)
	var all []asked
	for range 5000 {
		a := asked{
			mode:  uint8(m.below(9)),
			glide: api.Voted{Is: m.below(4) != 0, Value: m.number(), Of: m.below(4)},
			h:     api.Voted{Is: m.below(4) != 0, Value: m.number() % 2000, Of: m.below(4)},
			last:  m.number() % 40,
		}
		if m.below(4) != 0 {
			a.glide.Value %= 70
		}
		a.answer = a.ask()
		if want := [3]int64{sinkByWords(a.mode, a.glide, a.h, a.last), sum(3, a.h.Value, 100, 3, 18), heldByWords(a.last)}; a.answer != want {
			t.Fatalf("%+v: not %v", a, want)
		}
		all = append(all, a)
	}
	for _, a := range slices.Backward(all) {
		if again := a.ask(); again != a.answer {
			t.Fatalf("%+v: now %v", a, again)
		}
	}
	for range all {
		a := all[m.below(len(all))]
		if again := a.ask(); again != a.answer {
			t.Fatalf("%+v: at last %v", a, again)
		}
	}
}
