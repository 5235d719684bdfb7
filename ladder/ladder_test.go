package ladder

import (
	"math"
	"slices"
	"testing"

	"flarepath/api"
	"flarepath/equip"
)

const (
	least    = math.MinInt
	greatest = math.MaxInt
)

// full is the inventory of all that there is; it is what Land3 needs.
var full = api.Stock{Signals: [api.Signals]int{3, 3, 3, 3}, Lanes: 3, Hydraulics: 2, Rudder: true, Steering: true}

// two is what Land2 needs.
var two = api.Stock{Signals: [api.Signals]int{2, 2, 2, 2}, Lanes: 2, Hydraulics: 1, Rudder: true}

// manyParts is how many parts an inventory has: the signals, the lanes, the hydraulics, the rudder, the steering.
const manyParts = 8

const (
	lanesPart = api.Signals + iota
	hydraulicsPart
	rudderPart
	steeringPart
)

// withPart puts n into one part of an inventory; of a truth, what is not 0 is yes.
func withPart(s api.Stock, part, n int) api.Stock {
	switch part {
	case lanesPart:
		s.Lanes = n
	case hydraulicsPart:
		s.Hydraulics = n
	case rudderPart:
		s.Rudder = n != 0
	case steeringPart:
		s.Steering = n != 0
	default:
		s.Signals[part] = n
	}
	return s
}

// split tells all parts of an inventory, no as 0 and yes as 1.
func split(s api.Stock) [manyParts]int {
	return [manyParts]int{
		s.Signals[0], s.Signals[1], s.Signals[2], s.Signals[3],
		s.Lanes, s.Hydraulics, asNumber(s.Rudder), asNumber(s.Steering),
	}
}

func asNumber(is bool) int {
	if is {
		return 1
	}
	return 0
}

// join puts an inventory together of its parts.
func join(parts [manyParts]int) api.Stock {
	var s api.Stock
	for part, n := range parts {
		s = withPart(s, part, n)
	}
	return s
}

// noLess tells whether no part of a is less than that of b.
func noLess(a, b api.Stock) bool {
	partsOfB := split(b)
	for part, n := range split(a) {
		if n < partsOfB[part] {
			return false
		}
	}
	return true
}

// levelByWords reads the chapter's table from below: each level that is not there ends it.
func levelByWords(s api.Stock, passed bool) uint8 {
	if !passed || !s.Rudder || s.Lanes < 2 || s.Hydraulics < 1 || slices.Min(s.Signals[:]) < 2 {
		return api.NoLand
	}
	if !s.Steering || s.Lanes < 3 || s.Hydraulics < 2 || slices.Min(s.Signals[:]) < 3 {
		return api.Land2
	}
	return api.Land3
}

// wantMeets asks Meets, and whether what was handed in stays as it was.
func wantMeets(t *testing.T, s, under api.Stock, want bool) {
	t.Helper()
	keptS, keptUnder := s, under
	if got := Meets(s, under); got != want {
		t.Fatalf("Meets(%v, %v) = %t", s, under, got)
	}
	if s != keptS || under != keptUnder {
		t.Fatalf("Meets made %v, %v of %v, %v", s, under, keptS, keptUnder)
	}
}

// wantLevel asks Level with the test passed, and not, and whether what was handed in stays as it was.
func wantLevel(t *testing.T, s api.Stock, want uint8) {
	t.Helper()
	kept := s
	if got := Level(s, true); got != want {
		t.Fatalf("Level(%v, true) = %d, not %d", s, got, want)
	}
	if got := Level(s, false); got != api.NoLand {
		t.Fatalf("Level(%v, false) = %d", s, got)
	}
	if s != kept {
		t.Fatalf("Level made %v of %v", s, kept)
	}
}

// inventories are all that an aeroplane can have: each signal of 0 to 3, and so the lanes, the hydraulics of 0 to 2, each truth.
func inventories(each func(api.Stock)) {
	for bits := range 1 << 12 {
		s := api.Stock{
			Signals: [api.Signals]int{bits & 3, bits >> 2 & 3, bits >> 4 & 3, bits >> 6 & 3},
			Lanes:   bits >> 8 & 3,
			Rudder:  bits>>10&1 > 0, Steering: bits>>11 > 0,
		}
		for s.Hydraulics = range 3 {
			each(s)
		}
	}
}

// strange are numbers of which most aeroplanes have none.
func strange() []int {
	return []int{least, least + 1, -1 << 32, -257, -256, -3, -2, -1, 0, 1, 2, 3, 4, 255, 256, 257, 258, 259, 1 << 32, 1<<32 + 1, 1<<32 + 2, 1<<32 + 3, greatest - 1, greatest}
}

// The chapter's table of examples.
func TestExamples(t *testing.T) {
	wantLevel(t, full, 2)
	wantLevel(t, withPart(full, api.Drift, 2), 1)
	wantLevel(t, withPart(full, api.Loc, 1), 0)
	wantLevel(t, withPart(withPart(full, hydraulicsPart, 1), steeringPart, 0), 1)
}

// P17.1: the levels' numbers, as the examples tell them.
func TestLevelsAreNumbered(t *testing.T) {
	if api.NoLand != 0 || api.Land2 != 1 || api.Land3 != 2 {
		t.Error("the levels have other numbers")
	}
}

// P17.1: each inventory meets itself, and each meets nothing.
func TestMeetsItselfAndNothing(t *testing.T) {
	inventories(func(s api.Stock) {
		wantMeets(t, s, s, true)
		wantMeets(t, s, api.Stock{}, true)
		wantMeets(t, api.Stock{}, s, s == api.Stock{})
		wantMeets(t, full, s, true)
	})
}

// P17.1: inventories that no aeroplane has meet themselves.
func TestMeetsItselfOfStrangeNumbers(t *testing.T) {
	for _, n := range strange() {
		for part := range manyParts {
			for _, s := range []api.Stock{{}, two, full} {
				s = withPart(s, part, n)
				wantMeets(t, s, s, true)
			}
		}
		s := api.Stock{Signals: [api.Signals]int{n, n, n, n}, Lanes: n, Hydraulics: n}
		wantMeets(t, s, s, true)
	}
}

// P17.1: in each single place one more is enough, and one less is not.
func TestMeetsOneMoreOneLess(t *testing.T) {
	for part := range rudderPart {
		for _, n := range []int{least + 1, -2, -1, 0, 1, 2, 3, 4, greatest - 1} {
			for _, s := range []api.Stock{{}, two, full} {
				s = withPart(s, part, n)
				wantMeets(t, withPart(s, part, n+1), s, true)
				wantMeets(t, withPart(s, part, n-1), s, false)
				wantMeets(t, s, withPart(s, part, n+1), false)
				wantMeets(t, s, withPart(s, part, n-1), true)
			}
		}
	}
}

// P17.1: a truth that the least asks for is there; one that it does not ask for may be there, or not.
func TestMeetsTruths(t *testing.T) {
	for part := rudderPart; part < manyParts; part++ {
		for _, s := range []api.Stock{{}, two, full} {
			yes, no := withPart(s, part, 1), withPart(s, part, 0)
			wantMeets(t, yes, yes, true)
			wantMeets(t, yes, no, true)
			wantMeets(t, no, no, true)
			wantMeets(t, no, yes, false)
		}
	}
}

// P17.1: no number makes up for a truth that is not there, and no truth for a number.
func TestMeetsTruthsWhateverTheNumbers(t *testing.T) {
	for _, n := range strange() {
		for _, m := range strange() {
			s := api.Stock{Signals: [api.Signals]int{n, n, n, n}, Lanes: n, Hydraulics: n}
			under := api.Stock{Signals: [api.Signals]int{m, m, m, m}, Lanes: m, Hydraulics: m}
			for part := rudderPart; part < manyParts; part++ {
				other := rudderPart + steeringPart - part
				wantMeets(t, s, withPart(under, part, 1), false)
				wantMeets(t, withPart(s, other, 1), withPart(under, part, 1), false)
				wantMeets(t, withPart(s, part, 1), under, n >= m)
				wantMeets(t, withPart(s, part, 1), withPart(under, part, 1), n >= m)
			}
		}
	}
}

// P17.1: less in one place is not made up for by more in another, nor by more in all others.
func TestMeetsLessAndMore(t *testing.T) {
	under := api.Stock{Signals: [api.Signals]int{1, 1, 1, 1}, Lanes: 1, Hydraulics: 1}
	for part := range rudderPart {
		allMore := api.Stock{Signals: [api.Signals]int{9, 9, 9, 9}, Lanes: 9, Hydraulics: 9, Rudder: true, Steering: true}
		wantMeets(t, allMore, under, true)
		wantMeets(t, withPart(allMore, part, 0), under, false)
		wantMeets(t, withPart(allMore, part, least), under, false)
		for other := range manyParts {
			if other == part {
				continue
			}
			less := withPart(under, part, 0)
			wantMeets(t, withPart(less, other, 2), under, false)
			wantMeets(t, withPart(less, other, greatest), under, false)
		}
	}
	asked := full
	for part := rudderPart; part < manyParts; part++ {
		for other := range rudderPart {
			wantMeets(t, withPart(withPart(asked, part, 0), other, greatest), asked, false)
		}
	}
}

// P17.1: numbers below 0, far above what there is, and at both ends of int, on either side.
func TestMeetsStrangeNumbers(t *testing.T) {
	for part := range rudderPart {
		for _, n := range strange() {
			for _, m := range strange() {
				for _, s := range []api.Stock{{}, two, full} {
					wantMeets(t, withPart(s, part, n), withPart(s, part, m), n >= m)
				}
			}
		}
	}
}

// P17.1: each part less, equal or more, all of them at once, by the words.
func TestMeetsAllPatterns(t *testing.T) {
	met := 0
	for bits := range 1 << 16 {
		var parts, under [manyParts]int
		for part := range manyParts {
			parts[part], under[part] = bits>>part&1, bits>>(8+part)&1
		}
		s, asked := join(parts), join(under)
		want := bits>>8&^bits == 0
		wantMeets(t, s, asked, want)
		if want {
			met++
		}
	}
	// Three of four pairs in each of the eight places.
	if met != 6561 {
		t.Errorf("%d are met", met)
	}
}

// P17.1: the rows themselves, what is one more than they in a single place, and what is one less.
func TestLevelAroundRows(t *testing.T) {
	wantLevel(t, full, api.Land3)
	wantLevel(t, two, api.Land2)
	for part := range rudderPart {
		at3, at2 := split(full)[part], split(two)[part]
		wantLevel(t, withPart(full, part, at3+1), api.Land3)
		wantLevel(t, withPart(full, part, at3-1), api.Land2)
		wantLevel(t, withPart(two, part, at2+1), api.Land2)
		wantLevel(t, withPart(two, part, at2-1), api.NoLand)
		wantLevel(t, withPart(full, part, at2-1), api.NoLand)
		wantLevel(t, withPart(two, part, greatest), api.Land2)
	}
	wantLevel(t, withPart(two, steeringPart, 1), api.Land2)
}

// P17.1: without the steering it is not Land3, without the rudder neither of them.
func TestLevelWithoutSteeringOrRudder(t *testing.T) {
	wantLevel(t, withPart(full, steeringPart, 0), api.Land2)
	wantLevel(t, withPart(full, rudderPart, 0), api.NoLand)
	wantLevel(t, withPart(two, rudderPart, 0), api.NoLand)
	wantLevel(t, withPart(withPart(two, rudderPart, 0), steeringPart, 1), api.NoLand)
	for _, n := range strange() {
		s := api.Stock{Signals: [api.Signals]int{n, n, n, n}, Lanes: n, Hydraulics: n, Steering: true}
		wantLevel(t, s, api.NoLand)
	}
}

// P17.1: two of each signal with three lanes, three of each with two lanes, and other mixtures of the rows.
func TestLevelOfMixtures(t *testing.T) {
	for bits := range 1 << 8 {
		parts := split(two)
		all := true
		for part := range manyParts {
			if bits>>part&1 > 0 {
				parts[part] = split(full)[part]
			}
			all = all && parts[part] == split(full)[part]
		}
		want := uint8(api.Land2)
		if all {
			want = api.Land3
		}
		wantLevel(t, join(parts), want)
	}
	wantLevel(t, api.Stock{Signals: [api.Signals]int{2, 2, 2, 2}, Lanes: 3, Hydraulics: 2, Rudder: true, Steering: true}, api.Land2)
	wantLevel(t, api.Stock{Signals: [api.Signals]int{3, 3, 3, 3}, Lanes: 2, Hydraulics: 2, Rudder: true, Steering: true}, api.Land2)
}

// P17.1: of nothing there is NoLand, and of what has just one thing.
func TestLevelOfNothing(t *testing.T) {
	wantLevel(t, api.Stock{}, api.NoLand)
	for part := range manyParts {
		for _, n := range strange() {
			wantLevel(t, withPart(api.Stock{}, part, n), api.NoLand)
		}
	}
}

// P17.1: numbers that no aeroplane has, in a single place and in all.
func TestLevelOfStrangeNumbers(t *testing.T) {
	for _, n := range strange() {
		for part := range rudderPart {
			for _, s := range []api.Stock{{}, two, full} {
				s = withPart(s, part, n)
				wantLevel(t, s, levelByWords(s, true))
			}
		}
		s := api.Stock{Signals: [api.Signals]int{n, n, n, n}, Lanes: n, Hydraulics: n, Rudder: true}
		wantLevel(t, s, levelByWords(s, true))
		s.Steering = true
		wantLevel(t, s, levelByWords(s, true))
		if n >= 3 {
			wantLevel(t, s, api.Land3)
		}
		if n < 2 {
			wantLevel(t, s, api.NoLand)
		}
	}
}

// P17.1: all that an aeroplane can have, by the words.
func TestLevelOfAll(t *testing.T) {
	var many [3]int
	inventories(func(s api.Stock) {
		want := levelByWords(s, true)
		wantLevel(t, s, want)
		many[want]++
	})
	// Land3's row is one alone; Land2's are those of 2 or 3 in five places, 1 or 2 hydraulics, the steering there or not, without that one.
	if many != [3]int{12288 - 128, 127, 1} {
		t.Errorf("%v of each level", many)
	}
}

// P17.1: a level is there just if its row is met, and NoLand if no row is.
func TestLevelIsThereJustIfMet(t *testing.T) {
	rows := Rows()
	inventories(func(s api.Stock) {
		met := uint8(api.NoLand)
		for _, rung := range rows {
			if Meets(s, rung.Least) != (Level(s, true) >= rung.Level) {
				t.Fatalf("of %v the level is %d", s, Level(s, true))
			}
			if Meets(s, rung.Least) {
				met = max(met, rung.Level)
			}
		}
		wantLevel(t, s, met)
	})
}

// wantRows asks Rows for what the chapter's table says, nothing beside it.
func wantRows(t *testing.T) {
	t.Helper()
	want := []api.Rung{{Level: api.Land3, Least: full}, {Level: api.Land2, Least: two}}
	if got := Rows(); !slices.Equal(got, want) {
		t.Fatalf("Rows() = %v", got)
	}
}

// P17.1: Land3's row ahead of Land2's.
func TestRows(t *testing.T) {
	wantRows(t)
	for _, rung := range Rows() {
		wantLevel(t, rung.Least, rung.Level)
	}
}

// P17.1: anew each time: what a caller changes, in the room behind the end too, changes no later answer and no level.
func TestRowsAnew(t *testing.T) {
	first, second := Rows(), Rows()
	for _, rows := range [][]api.Rung{first, first[:cap(first)]} {
		for i := range rows {
			rows[i] = api.Rung{Level: 99}
			rows[i].Least.Signals[0] = greatest
		}
	}
	if !slices.Equal(second, Rows()) {
		t.Errorf("an earlier answer became %v", second)
	}
	wantRows(t)
	wantLevel(t, full, api.Land3)
	wantLevel(t, two, api.Land2)
	wantLevel(t, api.Stock{}, api.NoLand)
	slices.Reverse(second)
	_ = append(second[:0], api.Rung{})
	wantRows(t)
	wantLevel(t, full, api.Land3)
	wantLevel(t, two, api.Land2)
}

// wantNotHigher asks of less for no higher level, with the test passed and not, and without the test for none that is higher than with it.
func wantNotHigher(t *testing.T, less, more api.Stock) {
	t.Helper()
	for _, passed := range []bool{false, true} {
		if Level(less, passed) > Level(more, passed) {
			t.Fatalf("of %v the level is higher than of %v", less, more)
		}
	}
	if Level(less, false) > Level(more, true) {
		t.Fatalf("of %v without the test the level is higher than of %v", less, more)
	}
}

// P17.2: one less in any single place; what is less in several comes by more such steps.
func TestOfLessTheLevelIsNotHigher(t *testing.T) {
	inventories(func(s api.Stock) {
		for part, n := range split(s) {
			if n == 0 {
				continue
			}
			less := withPart(s, part, n-1)
			if !equip.Less(less, s) {
				t.Fatalf("%v is not less than %v", less, s)
			}
			wantNotHigher(t, less, s)
		}
	})
}

// P17.2: pairs that differ in several places at once, by a rule that mixes them.
func TestOfLessInManyPlacesTheLevelIsNotHigher(t *testing.T) {
	var stocks []api.Stock
	for i := range 600 {
		n := i*7919 + 13
		var parts [manyParts]int
		for part := range manyParts {
			n = n*1103515245 + 12345
			parts[part] = n >> 16 & 3
		}
		parts[rudderPart] &= 1
		parts[steeringPart] &= 1
		stocks = append(stocks, join(parts))
	}
	stocks = append(stocks, api.Stock{}, two, full)
	pairs := 0
	for _, a := range stocks {
		for _, b := range stocks {
			if noLess(b, a) {
				pairs++
				wantNotHigher(t, a, b)
			}
		}
	}
	if pairs < 1000 {
		t.Errorf("%d pairs alone", pairs)
	}
}

// P17.2: numbers that no aeroplane has, both ends of int among them.
func TestOfLessStrangeNumbersTheLevelIsNotHigher(t *testing.T) {
	for _, s := range []api.Stock{{}, two, full, withPart(two, rudderPart, 0), withPart(full, steeringPart, 0)} {
		for part := range rudderPart {
			for _, n := range strange() {
				for _, m := range strange() {
					if n <= m {
						wantNotHigher(t, withPart(s, part, n), withPart(s, part, m))
					}
				}
			}
		}
	}
}
