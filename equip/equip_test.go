package equip

import (
	"math"
	"testing"

	"flarepath/api"
)

const (
	least    = math.MinInt
	greatest = math.MaxInt
)

type (
	healths = [api.Signals][api.Sources]api.Health
	truths  = [api.Lanes]bool
)

// full is the inventory of all that there is.
var full = api.Stock{Signals: [api.Signals]int{3, 3, 3, 3}, Lanes: 3, Hydraulics: 2, Rudder: true, Steering: true}

var everyLane = truths{true, true, true}

const allUnits = 15

// manyParts is how many parts an inventory has: the signals, the lanes, the hydraulics, the rudder, the steering.
const manyParts = 8

const (
	lanesPart = api.Signals + iota
	hydraulicsPart
	rudderPart
	steeringPart
)

func isTruth(part int) bool { return part >= rudderPart }

// withPart puts n into one part of an inventory; of a truth, what is not 0 is yes.
func withPart(s api.Stock, part, n int) api.Stock {
	switch part {
	case lanesPart:
		s.Lanes = n
	case hydraulicsPart:
		s.Hydraulics = n
	case rudderPart:
		s.Rudder = n != 0
	case steeringPart:
		s.Steering = n != 0
	default:
		s.Signals[part] = n
	}
	return s
}

// split tells all parts of an inventory, no as 0 and yes as 1.
func split(s api.Stock) [manyParts]int {
	return [manyParts]int{
		s.Signals[0], s.Signals[1], s.Signals[2], s.Signals[3],
		s.Lanes, s.Hydraulics, asNumber(s.Rudder), asNumber(s.Steering),
	}
}

func asNumber(is bool) int {
	if is {
		return 1
	}
	return 0
}

// pattern tells whether each of three is so, by the three lowest bits.
func pattern(bits int) [3]bool {
	return [3]bool{bits&1 > 0, bits&2 > 0, bits&4 > 0}
}

// ones tells how many of the three lowest bits are 1.
func ones(bits int) int {
	return [8]int{0, 1, 1, 2, 1, 2, 2, 3}[bits&7]
}

// outs are healths of which those sources of each signal are out whose bits are 1.
func outs(bits [api.Signals]int) healths {
	var h healths
	for i := range h {
		for k, out := range pattern(bits[i]) {
			h[i][k].Out = out
		}
	}
	return h
}

// wantOf asks Of, and whether what was handed in stays as it was.
func wantOf(t *testing.T, h healths, alive truths, units uint8, want api.Stock) {
	t.Helper()
	keptHealths, keptAlive := h, alive
	if got := Of(h, alive, units); got != want {
		t.Fatalf("Of(%v, %v, %08b) = %v, not %v", h, alive, units, got, want)
	}
	if h != keptHealths || alive != keptAlive {
		t.Fatalf("Of made %v, %v of %v, %v", h, alive, keptHealths, keptAlive)
	}
}

// wantLess asks Less, and whether what was handed in stays as it was.
func wantLess(t *testing.T, a, b api.Stock, want bool) {
	t.Helper()
	keptA, keptB := a, b
	if got := Less(a, b); got != want {
		t.Fatalf("Less(%v, %v) = %t", a, b, got)
	}
	if a != keptA || b != keptB {
		t.Fatalf("Less made %v, %v of %v, %v", a, b, keptA, keptB)
	}
}

// wantLeast asks Least, and whether what was handed in stays as it was.
func wantLeast(t *testing.T, s api.Stock, want int) {
	t.Helper()
	kept := s
	if got := Least(s); got != want {
		t.Fatalf("Least(%v) = %d, not %d", s, got, want)
	}
	if s != kept {
		t.Fatalf("Least made %v of %v", s, kept)
	}
}

// The chapter's table of examples.
func TestExamples(t *testing.T) {
	wantOf(t, healths{}, everyLane, allUnits, full)
	var h healths
	h[api.Glide][1].Out = true
	s := Of(h, truths{true, false, true}, 9)
	if s.Lanes != 2 || s.Hydraulics != 1 || s.Rudder {
		t.Errorf("Of = %v", s)
	}
	wantLeast(t, s, 2)
	wantLess(t, s, full, true)
	wantLess(t, full, s, false)
	wantOf(t, h, truths{true, false, true}, 9, api.Stock{Signals: [api.Signals]int{3, 2, 3, 3}, Lanes: 2, Hydraulics: 1, Steering: true})
}

// P15.1: each source of each signal out alone: its signal has one less, and nothing else has.
func TestOfOneSourceOut(t *testing.T) {
	for i := range api.Signals {
		for k := range api.Sources {
			var h healths
			h[i][k].Out = true
			wantOf(t, h, everyLane, allUnits, withPart(full, i, 2))
		}
	}
}

// P15.1: each pattern of a signal's sources, of each signal by itself, beside others that are all in, and all out.
func TestOfEachPatternOfSources(t *testing.T) {
	for i := range api.Signals {
		for bits := range 8 {
			var out [api.Signals]int
			out[i] = bits
			wantOf(t, outs(out), everyLane, allUnits, withPart(full, i, 3-ones(bits)))
			out = [api.Signals]int{7, 7, 7, 7}
			out[i] = bits
			others := api.Stock{Lanes: 3, Hydraulics: 2, Rudder: true, Steering: true}
			wantOf(t, outs(out), everyLane, allUnits, withPart(others, i, 3-ones(bits)))
		}
	}
}

// P15.1: all patterns of all twelve sources.
func TestOfAllPatternsOfSources(t *testing.T) {
	for bits := range 1 << 12 {
		out := [api.Signals]int{bits & 7, bits >> 3 & 7, bits >> 6 & 7, bits >> 9}
		want := full
		for i := range out {
			want.Signals[i] = 3 - ones(out[i])
		}
		wantOf(t, outs(out), everyLane, allUnits, want)
	}
}

// P15.1: nothing is well.
func TestOfNothing(t *testing.T) {
	wantOf(t, outs([api.Signals]int{7, 7, 7, 7}), truths{}, 0, api.Stock{})
}

// P15.1: for how many frames a source was bad, or good, counts for nothing, even where no health has such numbers.
func TestOfWhateverElseOfHealths(t *testing.T) {
	for _, bad := range []int{least, -1, 0, 1, api.Persist - 1, api.Persist, api.Persist + 1, greatest} {
		for _, good := range []int{least, -1, 0, 1, api.Again - 1, api.Again, api.Again + 1, greatest} {
			for bits := range 8 {
				h := outs([api.Signals]int{bits, 7 - bits, 0, 7})
				for i := range h {
					for k := range h[i] {
						h[i][k].Bad, h[i][k].Good = bad, good
					}
				}
				want := full
				want.Signals = [api.Signals]int{3 - ones(bits), ones(bits), 3, 0}
				wantOf(t, h, everyLane, allUnits, want)
			}
		}
	}
}

// P15.1: each pattern of who is alive.
func TestOfEachPatternOfAlive(t *testing.T) {
	for _, c := range []struct {
		alive truths
		want  int
	}{
		{truths{false, false, false}, 0},
		{truths{true, false, false}, 1},
		{truths{false, true, false}, 1},
		{truths{false, false, true}, 1},
		{truths{true, true, false}, 2},
		{truths{true, false, true}, 2},
		{truths{false, true, true}, 2},
		{truths{true, true, true}, 3},
	} {
		wantOf(t, healths{}, c.alive, allUnits, withPart(full, lanesPart, c.want))
		wantOf(t, outs([api.Signals]int{7, 7, 7, 7}), c.alive, 0, api.Stock{Lanes: c.want})
	}
}

// unitsCase is what four units come to.
type unitsCase struct {
	units            uint8
	hydraulics       int
	rudder, steering bool
}

// unitsCases are all that four units can be.
func unitsCases() []unitsCase {
	return []unitsCase{
		{0b0000, 0, false, false},
		{0b0001, 1, false, false},
		{0b0010, 1, false, false},
		{0b0011, 2, false, false},
		{0b0100, 0, true, false},
		{0b0101, 1, true, false},
		{0b0110, 1, true, false},
		{0b0111, 2, true, false},
		{0b1000, 0, false, true},
		{0b1001, 1, false, true},
		{0b1010, 1, false, true},
		{0b1011, 2, false, true},
		{0b1100, 0, true, true},
		{0b1101, 1, true, true},
		{0b1110, 1, true, true},
		{0b1111, 2, true, true},
	}
}

// P15.1: each number of the units, with each of the other four bits: these count for nothing.
func TestOfUnits(t *testing.T) {
	for _, c := range unitsCases() {
		for others := range uint8(16) {
			units := c.units | others<<4
			want := full
			want.Hydraulics, want.Rudder, want.Steering = c.hydraulics, c.rudder, c.steering
			wantOf(t, healths{}, everyLane, units, want)
			want.Signals, want.Lanes = [api.Signals]int{}, 0
			wantOf(t, outs([api.Signals]int{7, 7, 7, 7}), truths{}, units, want)
		}
	}
}

// P15.1: the least one of the four, whichever signal it is of, equal ones, and numbers that no inventory has.
func TestLeast(t *testing.T) {
	for _, c := range []struct{ low, middle, high int }{
		{0, 1, 2},
		{1, 2, 3},
		{2, 3, 3},
		{2, 2, 3},
		{1, 1, 1},
		{0, 0, 0},
		{-2, -1, 0},
		{-1, 0, 1},
		{-9, 0, 9},
		{least, 0, greatest},
		{least, -1, 1},
		{least, least, greatest},
		{least, greatest, greatest},
		{least, least + 1, least + 2},
		{greatest - 2, greatest - 1, greatest},
		{greatest - 1, greatest, greatest},
		{least, least, least},
		{greatest, greatest, greatest},
	} {
		for i := range api.Signals {
			for k := range api.Signals {
				s := api.Stock{Signals: [api.Signals]int{c.middle, c.middle, c.middle, c.middle}}
				s.Signals[k] = c.high
				s.Signals[i] = c.low
				wantLeast(t, s, c.low)
			}
		}
	}
}

// P15.1: four that are all others, in all their orders.
func TestLeastOfEachOrder(t *testing.T) {
	values := [api.Signals]int{-4, 0, 2, 3}
	orders := 0
	for bits := range 1 << 8 {
		order := [api.Signals]int{bits & 3, bits >> 2 & 3, bits >> 4 & 3, bits >> 6}
		var s api.Stock
		var seen [api.Signals]bool
		for i, place := range order {
			s.Signals[i] = values[place]
			seen[place] = true
		}
		if seen == [api.Signals]bool{true, true, true, true} {
			orders++
			wantLeast(t, s, -4)
		}
	}
	if orders != 24 {
		t.Errorf("%d orders", orders)
	}
}

// P15.1: what is beside the signals counts for nothing.
func TestLeastOfSignalsAlone(t *testing.T) {
	for part := lanesPart; part < manyParts; part++ {
		for _, n := range []int{least, -1, 0, 1, 2, 3, 4, greatest} {
			for i := range api.Signals {
				wantLeast(t, withPart(withPart(full, i, 2), part, n), 2)
			}
			wantLeast(t, withPart(api.Stock{}, part, n), 0)
		}
	}
}

// steps are numbers of which the first one is less: by one, by more, and by both ends of int.
func steps() [][2]int {
	return [][2]int{
		{0, 1},
		{2, 3},
		{0, 3},
		{-1, 0},
		{-2, -1},
		{-7, 5},
		{least, greatest},
		{least, least + 1},
		{greatest - 1, greatest},
		{least, 0},
		{0, greatest},
		{-1, greatest},
		{least, 1},
	}
}

// stepOf is a step of a part: of a truth there is but one.
func stepOf(part int, step [2]int) [2]int {
	if isTruth(part) {
		return [2]int{0, 1}
	}
	return step
}

// grounds are inventories on which one part, or two, are made others.
func grounds() []api.Stock {
	end := func(n int, is bool) api.Stock {
		return api.Stock{Signals: [api.Signals]int{n, n, n, n}, Lanes: n, Hydraulics: n, Rudder: is, Steering: is}
	}
	return []api.Stock{
		{},
		full,
		{Signals: [api.Signals]int{3, 2, 1, 0}, Lanes: 2, Hydraulics: 1, Rudder: true},
		{Signals: [api.Signals]int{0, 1, 2, 3}, Lanes: 1, Steering: true},
		end(-1, true),
		end(least, false),
		end(least, true),
		end(greatest, false),
		end(greatest, true),
	}
}

// P15.1: of equal ones none is less.
func TestLessOfEqualOnes(t *testing.T) {
	for _, s := range grounds() {
		wantLess(t, s, s, false)
	}
}

// P15.1: one part alone is less, no less than yes: yes, and the other way round no.
func TestLessOfOnePart(t *testing.T) {
	for _, ground := range grounds() {
		for part := range manyParts {
			for _, step := range steps() {
				step = stepOf(part, step)
				low, high := withPart(ground, part, step[0]), withPart(ground, part, step[1])
				wantLess(t, low, high, true)
				wantLess(t, high, low, false)
				wantLess(t, low, low, false)
				wantLess(t, high, high, false)
			}
		}
	}
}

// P15.1: of each two parts one less and another one more: no, both ways, by however much; both less: yes, and the other way round no.
func TestLessOfTwoParts(t *testing.T) {
	for part := range manyParts {
		for other := range part {
			for _, step := range steps() {
				for _, otherStep := range steps() {
					for _, ground := range grounds() {
						twoParts(t, ground, part, other, stepOf(part, step), stepOf(other, otherStep))
					}
				}
			}
		}
	}
}

func twoParts(t *testing.T, ground api.Stock, part, other int, step, otherStep [2]int) {
	t.Helper()
	low, high := withPart(ground, part, step[0]), withPart(ground, part, step[1])
	lowLow, lowHigh := withPart(low, other, otherStep[0]), withPart(low, other, otherStep[1])
	highLow, highHigh := withPart(high, other, otherStep[0]), withPart(high, other, otherStep[1])
	wantLess(t, lowHigh, highLow, false)
	wantLess(t, highLow, lowHigh, false)
	wantLess(t, lowLow, highHigh, true)
	wantLess(t, highHigh, lowLow, false)
}

// P15.1: all parts less, by one, by more and by both ends of int: yes, and the other way round no;
// all but one less, and this one more: no, both ways.
func TestLessOfAllParts(t *testing.T) {
	for _, step := range steps() {
		var low, high api.Stock
		for part := range manyParts {
			s := stepOf(part, step)
			low, high = withPart(low, part, s[0]), withPart(high, part, s[1])
		}
		wantLess(t, low, high, true)
		wantLess(t, high, low, false)
		for part := range manyParts {
			s := stepOf(part, step)
			a, b := withPart(low, part, s[1]), withPart(high, part, s[0])
			wantLess(t, a, b, false)
			wantLess(t, b, a, false)
			wantLess(t, a, high, true)
			wantLess(t, low, b, true)
		}
	}
}

// P15.1: each part less, equal or more, in all ways in which eight can be so together:
// the parts of a are high whose bits are 1, so a is less than b where its bits are some of b's, and not all.
func TestLessOfEachPattern(t *testing.T) {
	for _, step := range steps() {
		var all [1 << manyParts]api.Stock
		for bits := range all {
			for part := range manyParts {
				all[bits] = withPart(all[bits], part, stepOf(part, step)[bits>>part&1])
			}
		}
		for a := range all {
			for b := range all {
				wantLess(t, all[a], all[b], a|b == b && a != b)
			}
		}
	}
}

// lessByWords tells Less by the promise's words, part by part.
func lessByWords(a, b api.Stock) bool {
	l, m := split(a), split(b)
	someLess, someMore := false, false
	for part := range l {
		someLess = someLess || l[part] < m[part]
		someMore = someMore || l[part] > m[part]
	}
	return someLess && !someMore
}

// mixedStocks are inventories of three numbers each in four places, and all truths.
func mixedStocks() []api.Stock {
	numbers := []int{least, 2, greatest}
	var all []api.Stock
	for _, loc := range numbers {
		for _, drift := range numbers {
			for _, lanes := range numbers {
				for _, hydraulics := range numbers {
					for bits := range 4 {
						all = append(all, api.Stock{
							Signals:    [api.Signals]int{loc, 1, 3, drift},
							Lanes:      lanes,
							Hydraulics: hydraulics,
							Rudder:     bits&1 > 0,
							Steering:   bits&2 > 0,
						})
					}
				}
			}
		}
	}
	return all
}

// P15.1: Less is an order: not of itself, not both ways, and of a less than b and b less than c, a less than c; and as the words tell it.
func TestLessIsAnOrder(t *testing.T) {
	all := mixedStocks()
	for _, a := range all {
		wantLess(t, a, a, false)
		for _, b := range all {
			wantLess(t, a, b, lessByWords(a, b))
			if !Less(a, b) {
				continue
			}
			wantLess(t, b, a, false)
			for _, c := range all {
				if Less(b, c) {
					wantLess(t, a, c, true)
				}
			}
		}
	}
}

// given is all that an inventory is told of.
type given struct {
	h     healths
	alive truths
	units uint8
}

func (g given) stock() api.Stock { return Of(g.h, g.alive, g.units) }

// failure is something that fails: what is given behind it, and which part of the inventory it belongs to.
type failure struct {
	part int
	fail func(given) given
}

// failures are all that can fail.
func failures() []failure {
	var all []failure
	for i := range api.Signals {
		for k := range api.Sources {
			all = append(all, failure{i, func(g given) given { g.h[i][k].Out = true; return g }})
		}
	}
	for k := range api.Lanes {
		all = append(all, failure{lanesPart, func(g given) given { g.alive[k] = false; return g }})
	}
	for unit, part := range [api.Units]int{hydraulicsPart, hydraulicsPart, rudderPart, steeringPart} {
		all = append(all, failure{part, func(g given) given { g.units &^= 1 << unit; return g }})
	}
	return all
}

// P15.2: whatever is well or not, whatever fails of it makes no number greater, and none other than its own.
func TestWhatFailsMakesNothingGreater(t *testing.T) {
	all := failures()
	for bits := range 1 << 12 {
		g := given{h: outs([api.Signals]int{bits & 7, bits >> 3 & 7, bits >> 6 & 7, bits >> 9})}
		for alive := range 8 {
			g.alive = pattern(alive)
			for units := range uint8(16) {
				// The other four bits are any; they stay as they are.
				g.units = units | uint8(bits+alive)<<4
				wantNothingGreater(t, g, all)
			}
		}
	}
}

func wantNothingGreater(t *testing.T, g given, all []failure) {
	t.Helper()
	old := g.stock()
	for _, f := range all {
		behind := f.fail(g)
		s := behind.stock()
		l, m := split(s), split(old)
		for part := range l {
			if l[part] > m[part] || part != f.part && l[part] != m[part] {
				t.Fatalf("part %d fails of %v: %v behind %v", f.part, g, s, old)
			}
		}
		// What was not well ahead of it can't fail: nothing is less.
		if Less(s, old) != (behind != g) || Less(old, s) || s != old && behind == g {
			t.Fatalf("part %d fails of %v: %v is not the same as %v, or less", f.part, g, s, old)
		}
		if Least(s) > Least(old) {
			t.Fatalf("part %d fails of %v: the least of %v is more than of %v", f.part, g, s, old)
		}
	}
}

// P15.2: so of all that fails one behind the other, whichever is first, up to nothing that is well.
func TestWhatFailsOnAndOn(t *testing.T) {
	all := failures()
	if len(all) != api.Signals*api.Sources+api.Lanes+api.Units {
		t.Fatalf("%d can fail", len(all))
	}
	for start := range all {
		g, old := given{alive: everyLane, units: 0xff}, full
		for i := range all {
			g = all[(start+i)%len(all)].fail(g)
			s := g.stock()
			wantLess(t, s, old, true)
			wantLess(t, s, full, true)
			wantLess(t, full, s, false)
			old = s
		}
		if old != (api.Stock{}) {
			t.Errorf("all failed, %v is left", old)
		}
		wantLeast(t, old, 0)
	}
}
