package band

import (
	"math"
	"math/big"
	"slices"
	"testing"

	"flarepath/api"
)

// truths are both of them.
var truths = [2]bool{false, true}

// at is a signal that is there.
func at(n int64) api.Voted { return api.Voted{Is: true, Value: n, Of: 3} }

// none is a signal that is not there, whatever its Value says.
func none(n int64) api.Voted { return api.Voted{Value: n} }

// places are the numbers at which something may change: the edges of the bands and of the beam, both sides of each, 0, and both ends.
func places() []int64 {
	var all []int64
	for _, edge := range []int64{0, 300, 500, 1524, 6096, math.MaxInt32, math.MaxUint32, 1 << 62} {
		for _, n := range []int64{edge, -edge} {
			all = append(all, n-2, n-1, n, n+1, n+2)
		}
	}
	for away := range int64(3) {
		all = append(all, math.MinInt64+away, math.MaxInt64-away)
	}
	return all
}

// numbers are many: all from below the least to above the greatest edge, the places, each power of two with its neighbours, and some of all sizes by a rule that mixes them.
func numbers() []int64 {
	all := places()
	for n := int64(-7000); n <= 7000; n++ {
		all = append(all, n)
	}
	for shift := range 64 {
		power := int64(1) << shift
		all = append(all, power-1, power, power+1, -power-1, -power, -power+1)
	}
	mixed := uint64(17)
	for range 20000 {
		mixed = mixed*6364136223846793005 + 1442695040888963407
		all = append(all, int64(mixed)>>(mixed>>58))
	}
	return all
}

// bandByWords reads the chapter's words sentence by sentence.
func bandByWords(h api.Voted, wheel bool) uint8 {
	if wheel {
		return api.Ground
	}
	if !h.Is {
		return api.NoBand
	}
	if h.Value > 6096 {
		return api.High
	}
	if h.Value > 1524 {
		return api.Alert
	}
	if h.Value > 300 {
		return api.FlareBand
	}
	return api.AlignBand
}

// furtherThan tells whether a number is further from 0 than that, by numbers that have no ends.
func furtherThan(n, from int64) bool {
	return new(big.Int).Abs(big.NewInt(n)).Cmp(big.NewInt(from)) > 0
}

// wantOf asks Of, and whether what was handed in stays as it is.
func wantOf(t *testing.T, h api.Voted, wheel bool, want uint8) {
	t.Helper()
	kept := h
	if got := Of(h, wheel); got != want {
		t.Fatalf("Of(%v, %t) = %d, not %d", h, wheel, got, want)
	}
	if h != kept {
		t.Fatalf("Of made %v of %v", h, kept)
	}
}

// wantReach asks On and Wide, and whether what was handed in stays as it is.
func wantReach(t *testing.T, v api.Voted, on, wide bool) {
	t.Helper()
	kept := v
	if got := On(v); got != on {
		t.Fatalf("On(%v) = %t", v, got)
	}
	if got := Wide(v); got != wide {
		t.Fatalf("Wide(%v) = %t", v, got)
	}
	if v != kept {
		t.Fatalf("On and Wide made %v of %v", v, kept)
	}
}

// The chapter's table of examples.
func TestExamples(t *testing.T) {
	wantOf(t, at(6097), false, api.High)
	wantOf(t, at(6096), false, api.Alert)
	wantOf(t, at(1524), false, api.FlareBand)
	wantOf(t, at(300), false, api.AlignBand)
	wantOf(t, api.Voted{}, false, api.NoBand)
	wantOf(t, at(9000), true, api.Ground)
	if !Low(api.Alert) || Low(api.NoBand) {
		t.Error("Low")
	}
	if !On(at(300)) || On(at(-301)) {
		t.Error("On")
	}
	if !Wide(at(501)) || Wide(at(-500)) {
		t.Error("Wide")
	}
}

// P19.1: the bands' numbers, as they stand in api, by which one is higher than another one.
func TestBandsAreNumbered(t *testing.T) {
	bands := [6]uint8{api.High, api.Alert, api.FlareBand, api.AlignBand, api.Ground, api.NoBand}
	if bands != [6]uint8{0, 1, 2, 3, 4, 5} {
		t.Errorf("the bands have other numbers: %v", bands)
	}
}

// P19.1: with the wheels down it is Ground, whatever the height is, there or not.
func TestOfWithWheelsDown(t *testing.T) {
	for _, n := range numbers() {
		wantOf(t, at(n), true, api.Ground)
		wantOf(t, none(n), true, api.Ground)
		wantOf(t, api.Voted{Value: n, Of: 3}, true, api.Ground)
	}
	wantOf(t, api.Voted{}, true, api.Ground)
}

// P19.1: with the wheels up and no height it is NoBand, whatever its Value says.
func TestOfNoHeight(t *testing.T) {
	for _, n := range numbers() {
		wantOf(t, none(n), false, api.NoBand)
		wantOf(t, api.Voted{Value: n, Of: 3}, false, api.NoBand)
	}
	wantOf(t, api.Voted{}, false, api.NoBand)
}

// P19.1: each edge and both sides of it, 0 and below, and both ends, one by one.
func TestOfAtEdges(t *testing.T) {
	for _, example := range []struct {
		height int64
		want   uint8
	}{
		{math.MaxInt64, api.High}, {math.MaxInt64 - 1, api.High}, {1 << 32, api.High}, {20000, api.High},
		{6098, api.High}, {6097, api.High},
		{6096, api.Alert}, {6095, api.Alert}, {3000, api.Alert}, {1526, api.Alert}, {1525, api.Alert},
		{1524, api.FlareBand}, {1523, api.FlareBand}, {900, api.FlareBand}, {302, api.FlareBand}, {301, api.FlareBand},
		{300, api.AlignBand}, {299, api.AlignBand}, {1, api.AlignBand}, {0, api.AlignBand},
		{-1, api.AlignBand}, {-300, api.AlignBand}, {-301, api.AlignBand}, {-1524, api.AlignBand}, {-6096, api.AlignBand}, {-6097, api.AlignBand},
		{math.MinInt64 + 1, api.AlignBand}, {math.MinInt64, api.AlignBand},
	} {
		wantOf(t, at(example.height), false, example.want)
	}
}

// P19.1: many heights, by the words, there and not, the wheels up and down.
func TestOfByWords(t *testing.T) {
	many := [6]int{}
	for _, n := range numbers() {
		for _, is := range truths {
			for _, wheel := range truths {
				h := api.Voted{Is: is, Value: n, Of: 2}
				want := bandByWords(h, wheel)
				wantOf(t, h, wheel, want)
				many[want]++
			}
		}
	}
	if slices.Contains(many[:], 0) {
		t.Errorf("some band never came: %v", many)
	}
}

// P19.1: of how many sources a height is changes nothing.
func TestOfWhateverOfSays(t *testing.T) {
	for _, of := range []int{-1, 0, 1, 2, 3, 4, math.MinInt, math.MaxInt} {
		for _, n := range places() {
			h := api.Voted{Is: true, Value: n, Of: of}
			wantOf(t, h, false, bandByWords(h, false))
			wantOf(t, h, true, api.Ground)
			wantOf(t, api.Voted{Value: n, Of: of}, false, api.NoBand)
		}
	}
}

// P19.1: Low of each number: yes for Alert, FlareBand, AlignBand and Ground alone.
func TestLowOfAll(t *testing.T) {
	low := []uint8{api.Alert, api.FlareBand, api.AlignBand, api.Ground}
	for n := range 256 {
		band := uint8(n)
		if got := Low(band); got != slices.Contains(low, band) {
			t.Errorf("Low(%d) = %t", band, got)
		}
	}
}

// P19.1: Low of some, one by one: no for High, NoBand and what is no band.
func TestLowOfSome(t *testing.T) {
	for _, band := range []uint8{1, 2, 3, 4} {
		if !Low(band) {
			t.Errorf("Low(%d) = false", band)
		}
	}
	for _, band := range []uint8{0, 5, 6, 7, 128, 129, 254, 255} {
		if Low(band) {
			t.Errorf("Low(%d) = true", band)
		}
	}
}

// P19.1: On and Wide of a signal that is there, at the edges, one by one.
func TestOnAndWideAtEdges(t *testing.T) {
	for _, example := range []struct {
		n        int64
		on, wide bool
	}{
		{0, true, false}, {1, true, false}, {-1, true, false},
		{299, true, false}, {-299, true, false}, {300, true, false}, {-300, true, false},
		{301, false, false}, {-301, false, false}, {400, false, false}, {-400, false, false},
		{499, false, false}, {-499, false, false}, {500, false, false}, {-500, false, false},
		{501, false, true}, {-501, false, true}, {502, false, true}, {-502, false, true},
		{1 << 32, false, true}, {-1 << 32, false, true},
		{math.MaxInt64 - 1, false, true}, {math.MaxInt64, false, true},
		{math.MinInt64 + 1, false, true}, {math.MinInt64, false, true},
	} {
		wantReach(t, at(example.n), example.on, example.wide)
	}
}

// P19.1: On and Wide of many numbers, by how far they are from 0; of how many sources they are changes nothing.
func TestOnAndWideByWords(t *testing.T) {
	for _, n := range numbers() {
		on, wide := !furtherThan(n, 300), furtherThan(n, 500)
		for _, of := range []int{0, 1, 2, 3, -1, math.MinInt, math.MaxInt} {
			wantReach(t, api.Voted{Is: true, Value: n, Of: of}, on, wide)
		}
	}
}

// P19.1: a signal that is not there is neither on the beam nor wide, whatever its Value says.
func TestOnAndWideOfNone(t *testing.T) {
	wantReach(t, api.Voted{}, false, false)
	for _, n := range numbers() {
		wantReach(t, none(n), false, false)
		wantReach(t, api.Voted{Value: n, Of: 3}, false, false)
	}
}

// wantSense asks Sense, and whether what was handed in stays as it is.
func wantSense(t *testing.T, v [api.Signals]api.Voted, wheel bool, level, crew uint8, wide bool, want api.Sense) {
	t.Helper()
	kept := v
	if got := Sense(v, wheel, level, crew, wide); got != want {
		t.Fatalf("Sense(%v, %t, %d, %d, %t) = %v, not %v", v, wheel, level, crew, wide, got, want)
	}
	if v != kept {
		t.Fatalf("Sense made %v of %v", v, kept)
	}
}

// P19.1: Sense of some frames, written out.
func TestSenseOfSome(t *testing.T) {
	// In their order: Loc, Glide, Height, Drift.
	v := [api.Signals]api.Voted{at(5), at(400), at(2000), at(0)}
	wantSense(t, v, false, 2, 3, true, api.Sense{Band: api.Alert, Loc: true, Level: 2, Crew: 3, Wide: true})

	v = [api.Signals]api.Voted{at(-301), at(-300), at(301), at(7)}
	wantSense(t, v, false, 1, 8, false, api.Sense{Band: api.FlareBand, Glide: true, Level: 1, Crew: 8})

	v = [api.Signals]api.Voted{at(0), at(0), none(2000), at(90000)}
	wantSense(t, v, false, 0, 0, false, api.Sense{Band: api.NoBand, Loc: true, Glide: true})
	wantSense(t, v, true, 255, 255, true, api.Sense{Band: api.Ground, Loc: true, Glide: true, Wheel: true, Level: 255, Crew: 255, Wide: true})

	v = [api.Signals]api.Voted{none(5), none(5), at(20000), none(5)}
	wantSense(t, v, false, 0, 1, false, api.Sense{Band: api.High, Crew: 1})

	wantSense(t, [api.Signals]api.Voted{}, false, 0, 0, false, api.Sense{Band: api.NoBand})
	wantSense(t, [api.Signals]api.Voted{}, true, 0, 0, false, api.Sense{Band: api.Ground, Wheel: true})
}

// P19.1: each signal on its own: the band is the Height's, Loc and Glide are each their own signal's, and Drift's is nobody's.
func TestSenseOfEachSignal(t *testing.T) {
	values := []api.Voted{
		at(0), at(300), at(-300), at(301), at(-301), at(501), at(1524), at(1525), at(6096), at(6097),
		at(math.MaxInt64), at(math.MinInt64), none(0), none(2000), none(math.MinInt64),
	}
	for _, loc := range values {
		for _, glide := range values {
			for _, height := range values {
				for _, drift := range values {
					v := [api.Signals]api.Voted{api.Loc: loc, api.Glide: glide, api.Height: height, api.Drift: drift}
					for _, wheel := range truths {
						wantSense(t, v, wheel, 1, 2, false, api.Sense{
							Band:  bandByWords(height, wheel),
							Loc:   loc.Is && !furtherThan(loc.Value, 300),
							Glide: glide.Is && !furtherThan(glide.Value, 300),
							Wheel: wheel,
							Level: 1,
							Crew:  2,
						})
					}
				}
			}
		}
	}
}

// P19.1: wheel, level, crew and wide are as they were handed in, each level and each crew of 0 to 255, those that are none too; wide is not asked of the signals.
func TestSenseHandsOn(t *testing.T) {
	for _, v := range [][api.Signals]api.Voted{
		{},
		{at(0), at(0), at(1000), at(0)},
		{at(501), at(-501), at(100), at(501)},
	} {
		want := api.Sense{
			Loc:   v[api.Loc].Is && v[api.Loc].Value == 0,
			Glide: v[api.Glide].Is && v[api.Glide].Value == 0,
		}
		for bits := range 1 << 16 {
			want.Level, want.Crew = uint8(bits), uint8(bits>>8)
			for _, want.Wheel = range truths {
				for _, want.Wide = range truths {
					want.Band = bandByWords(v[api.Height], want.Wheel)
					wantSense(t, v, want.Wheel, want.Level, want.Crew, want.Wide, want)
				}
			}
		}
	}
}

// P19.1: Sense is made of what the other calls tell.
func TestSenseByTheOthers(t *testing.T) {
	all := numbers()
	for i, n := range all {
		other := all[(i*7+3)%len(all)]
		v := [api.Signals]api.Voted{
			{Is: i%5 != 0, Value: n, Of: 1}, {Is: i%7 != 0, Value: other, Of: 2}, {Is: i%3 != 0, Value: all[len(all)-1-i], Of: 3}, at(n),
		}
		wheel := i%4 == 0
		wantSense(t, v, wheel, uint8(i), uint8(i>>8), i%2 == 0, api.Sense{
			Band:  Of(v[api.Height], wheel),
			Loc:   On(v[api.Loc]),
			Glide: On(v[api.Glide]),
			Wheel: wheel,
			Level: uint8(i),
			Crew:  uint8(i >> 8),
			Wide:  i%2 == 0,
		})
	}
}

// P19.2: a lesser height is never a higher band, over each two of the places.
func TestLesserHeightIsNoHigherBand(t *testing.T) {
	for _, lesser := range places() {
		for _, greater := range places() {
			if lesser > greater {
				continue
			}
			// The highest band has the least number.
			if low, high := Of(at(lesser), false), Of(at(greater), false); low < high {
				t.Fatalf("%d is %d, and %d is %d", lesser, low, greater, high)
			}
		}
	}
}

// P19.2: a lesser height is never a higher band, over many numbers, falling; each band comes, and what is below the alert height stays that.
func TestBandsFallWithHeights(t *testing.T) {
	heights := numbers()
	slices.Sort(heights)
	slices.Reverse(heights)
	var came []uint8
	for i, n := range heights {
		band := Of(at(n), false)
		if i == 0 || band != came[len(came)-1] {
			came = append(came, band)
		}
		if Low(band) != (n <= 6096) {
			t.Fatalf("%d is in %d, of which Low tells %t", n, band, Low(band))
		}
	}
	if !slices.Equal(came, []uint8{api.High, api.Alert, api.FlareBand, api.AlignBand}) {
		t.Errorf("falling, the bands came as %v", came)
	}
}

// P19.2: what is on the beam is not wide, whether it is there or not.
func TestOnTheBeamIsNotWide(t *testing.T) {
	for _, n := range numbers() {
		for _, v := range []api.Voted{at(n), none(n)} {
			if On(v) && Wide(v) {
				t.Fatalf("%v is on the beam, and wide", v)
			}
		}
	}
}

// What a call answers hangs on nothing that was asked before it.
func TestAskedAgain(t *testing.T) {
	for range 3 {
		for _, n := range places() {
			wantOf(t, at(n), true, api.Ground)
			wantOf(t, at(n), false, bandByWords(at(n), false))
			wantReach(t, at(n), !furtherThan(n, 300), furtherThan(n, 500))
		}
	}
}
