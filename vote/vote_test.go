package vote

import (
	"math"
	"math/big"
	"slices"
	"testing"

	"flarepath/api"
	"flarepath/persist"
)

const (
	least    = math.MinInt64
	greatest = math.MaxInt64
)

type (
	healths  = [api.Sources]api.Health
	readings = [api.Sources]api.Reading
	bads     = [api.Sources]bool
)

// Healths: in is of a source that is in, out of one that just came to be out, and odd may not be, though it is in.
var (
	in  = api.Health{}
	out = api.Health{Bad: api.Persist, Out: true}
	odd = api.Health{Bad: api.Persist}
)

// none is what a source says that says nothing.
var none = api.Reading{}

func says(n int64) api.Reading {
	return api.Reading{Is: true, Value: n}
}

func is(value int64, of int) api.Voted {
	return api.Voted{Is: true, Value: value, Of: of}
}

// isNone is a signal that is none, though so many are present.
func isNone(of int) api.Voted {
	return api.Voted{Of: of}
}

// orders are the six orders of three places.
func orders() [][3]int {
	return [][3]int{{0, 1, 2}, {0, 2, 1}, {1, 0, 2}, {1, 2, 0}, {2, 0, 1}, {2, 1, 0}}
}

// behind tells the healths behind a frame in which these were bad.
func behind(h healths, bad bads, back bool) healths {
	for i := range h {
		h[i] = persist.Next(h[i], bad[i], back)
	}
	return h
}

// distance tells how far two numbers are apart, by numbers that have no ends.
func distance(a, b int64) *big.Int {
	d := new(big.Int).Sub(big.NewInt(a), big.NewInt(b))
	return d.Abs(d)
}

func isFar(a, b, apart int64) bool {
	return distance(a, b).Cmp(big.NewInt(apart)) > 0
}

// half tells half of a sum, towards the lesser one, by numbers that have no ends.
func half(a, b int64) int64 {
	sum := new(big.Int).Add(big.NewInt(a), big.NewInt(b))
	return sum.Div(sum, big.NewInt(2)).Int64()
}

// words tells a frame by the chapter's words, sentence by sentence.
func words(h healths, r readings, apart int64, back bool) (healths, api.Voted) {
	var there []int64
	var isOut, bad bads
	for i := range h {
		isOut[i] = h[i].Out || !persist.May(h[i])
		if !isOut[i] && r[i].Is {
			there = append(there, r[i].Value)
		}
	}
	slices.Sort(there)
	v := isNone(len(there))
	farTwo := false
	switch len(there) {
	case 1:
		v = is(there[0], 1)
	case 2:
		farTwo = isFar(there[0], there[1], apart)
		if !farTwo {
			v = is(half(there[0], there[1]), 2)
		}
	case 3:
		v = is(there[1], 3)
	}
	for i := range h {
		switch {
		case !r[i].Is:
			bad[i] = true
		case isOut[i]:
			bad[i] = !v.Is || isFar(r[i].Value, v.Value, apart)
		case len(there) == 3:
			bad[i] = isFar(r[i].Value, v.Value, apart)
		default:
			bad[i] = farTwo
		}
	}
	return behind(h, bad, back), v
}

// frame is a case: what is told of three sources, and what it comes to.
type frame struct {
	h     healths
	r     readings
	apart int64
	want  api.Voted
	bad   bads
}

// put puts three sources into other places.
func (f frame) put(places [3]int) frame {
	g := f
	for i, p := range places {
		g.h[p], g.r[p], g.bad[p] = f.h[i], f.r[i], f.bad[i]
	}
	return g
}

// check holds Step against a frame in each order of its sources, allowed back and not.
func check(t *testing.T, f frame) {
	t.Helper()
	for _, places := range orders() {
		g := f.put(places)
		for _, back := range []bool{false, true} {
			h, v := Step(g.h, g.r, g.apart, back)
			if v != g.want {
				t.Errorf("Step(%+v, %+v, %d, %t) comes to %+v, not %+v", g.h, g.r, g.apart, back, v, g.want)
			}
			if want := behind(g.h, g.bad, back); h != want {
				t.Errorf("Step(%+v, %+v, %d, %t): health %+v, not %+v", g.h, g.r, g.apart, back, h, want)
			}
		}
	}
}

// P11.1: the chapter's examples.
func TestExamples(t *testing.T) {
	for _, f := range []frame{
		{r: readings{says(5), says(7), says(900)}, want: is(7, 3), bad: bads{false, false, true}},
		{r: readings{says(5), says(8), none}, want: is(6, 2), bad: bads{false, false, true}},
		{r: readings{says(5), says(900), none}, want: isNone(2), bad: bads{true, true, true}},
		{r: readings{none, none, says(3)}, want: is(3, 1), bad: bads{true, true, false}},
	} {
		f.apart = 100
		check(t, f)
	}
	h, v := Step(healths{}, readings{says(5), says(7), says(900)}, 100, false)
	if v.Value != 7 || v.Of != 3 || h[2].Bad != 1 {
		t.Errorf("Step(5, 7, 900) = %+v, %+v", h, v)
	}
}

// P11.1: three present ones, of which none, one, two, and at an apart below 0 all three, are far from the middle.
func TestThreePresent(t *testing.T) {
	for _, f := range []frame{
		{r: readings{says(0), says(0), says(0)}, apart: 100, want: is(0, 3)},
		{r: readings{says(5), says(7), says(9)}, apart: 100, want: is(7, 3)},
		{r: readings{says(-5), says(-7), says(9)}, apart: 100, want: is(-5, 3)},
		{r: readings{says(0), says(100), says(200)}, apart: 100, want: is(100, 3)},
		{r: readings{says(0), says(100), says(201)}, apart: 100, want: is(100, 3), bad: bads{false, false, true}},
		{r: readings{says(-1), says(100), says(200)}, apart: 100, want: is(100, 3), bad: bads{true, false, false}},
		{r: readings{says(-1), says(100), says(201)}, apart: 100, want: is(100, 3), bad: bads{true, false, true}},
		{r: readings{says(-900), says(0), says(900)}, apart: 100, want: is(0, 3), bad: bads{true, false, true}},
		// Two that are far from the third one, but not from each other.
		{r: readings{says(900), says(901), says(0)}, apart: 100, want: is(900, 3), bad: bads{false, false, true}},
		// An apart of 0: only what is alike is not far.
		{r: readings{says(4), says(4), says(4)}, apart: 0, want: is(4, 3)},
		{r: readings{says(4), says(4), says(5)}, apart: 0, want: is(4, 3), bad: bads{false, false, true}},
		{r: readings{says(3), says(4), says(5)}, apart: 0, want: is(4, 3), bad: bads{true, false, true}},
		// An apart below 0: each number is far from itself too.
		{r: readings{says(4), says(4), says(4)}, apart: -1, want: is(4, 3), bad: bads{true, true, true}},
		{r: readings{says(4), says(5), says(6)}, apart: least, want: is(5, 3), bad: bads{true, true, true}},
	} {
		check(t, f)
	}
}

// absences are the ways in which a source isn't present, each with whether it is bad beside a signal of about 1000.
func absences() []frame {
	at := func(h api.Health, r api.Reading, bad bool) frame {
		return frame{h: healths{h}, r: readings{r}, bad: bads{bad}}
	}
	return []frame{
		at(in, none, true),
		at(api.Health{Bad: 3}, none, true),
		// A value beside a no is none.
		at(in, api.Reading{Value: 1000}, true),
		at(out, none, true),
		at(out, api.Reading{Value: 1000}, true),
		at(out, says(1000), false),
		at(out, says(5000), true),
		at(api.Health{Out: true, Good: 7}, says(1000), false),
		at(api.Health{Out: true}, says(5000), true),
		at(odd, none, true),
		at(odd, says(1000), false),
		at(odd, says(5000), true),
		at(api.Health{Bad: -1}, says(1000), false),
		at(api.Health{Bad: 1, Good: 1}, says(1000), false),
		at(api.Health{Good: api.MaxCount + 1}, says(1000), false),
		at(api.Health{Bad: api.MaxCount + 1, Out: true}, says(1000), false),
	}
}

// P11.1: two present ones, the third one absent in every way, in each place.
func TestTwoPresent(t *testing.T) {
	for _, a := range absences() {
		h, r := healths{2: a.h[0]}, a.r[0]
		good := bads{2: a.bad[0]}
		bad := bads{true, true, true}
		for _, f := range []frame{
			{h: h, r: readings{says(1000), says(1000), r}, apart: 100, want: is(1000, 2), bad: good},
			{h: h, r: readings{says(998), says(1003), r}, apart: 100, want: is(1000, 2), bad: good},
			{h: h, r: readings{says(950), says(1050), r}, apart: 100, want: is(1000, 2), bad: good},
			// One more than apart: the signal is none, and whoever says something beside it is bad too.
			{h: h, r: readings{says(950), says(1051), r}, apart: 100, want: isNone(2), bad: bad},
			{h: h, r: readings{says(949), says(1050), r}, apart: 100, want: isNone(2), bad: bad},
			{h: h, r: readings{says(1000), says(least), r}, apart: 100, want: isNone(2), bad: bad},
			{h: h, r: readings{says(1000), says(1000), r}, apart: 0, want: is(1000, 2), bad: good},
			{h: h, r: readings{says(1000), says(1001), r}, apart: 0, want: isNone(2), bad: bad},
			{h: h, r: readings{says(1000), says(1000), r}, apart: -1, want: isNone(2), bad: bad},
			{h: h, r: readings{says(1000), says(1000), r}, apart: least, want: isNone(2), bad: bad},
		} {
			check(t, f)
		}
	}
}

// P11.1: the average of two goes towards the lesser one.
func TestTwoAverage(t *testing.T) {
	for _, c := range []struct{ a, b, want int64 }{
		{5, 8, 6}, {-5, -8, -7}, {-1, 0, -1}, {0, 1, 0}, {-3, 4, 0}, {-4, 3, -1}, {7, 7, 7},
	} {
		check(t, frame{r: readings{says(c.a), says(c.b), none}, apart: 100, want: is(c.want, 2), bad: bads{2: true}})
	}
}

// P11.1: one present, the two others absent in every way: it is held against nothing, and good, at each apart.
func TestOnePresent(t *testing.T) {
	for _, a := range absences() {
		for _, b := range absences() {
			f := frame{h: healths{in, a.h[0], b.h[0]}, r: readings{says(1000), a.r[0], b.r[0]}, apart: 100}
			f.want, f.bad = is(1000, 1), bads{false, a.bad[0], b.bad[0]}
			check(t, f)
			// At an apart below 0 all that are held against it are far from it.
			f.apart, f.bad = -1, bads{false, true, true}
			check(t, f)
		}
	}
}

// P11.1: none present: the signal is none, and all are bad, those too that are out and say the same.
func TestNonePresent(t *testing.T) {
	for _, a := range absences() {
		for _, b := range absences() {
			for _, c := range absences() {
				check(t, frame{
					h:     healths{a.h[0], b.h[0], c.h[0]},
					r:     readings{a.r[0], b.r[0], c.r[0]},
					apart: 100,
					want:  isNone(0),
					bad:   bads{true, true, true},
				})
			}
		}
	}
}

// P11.1: one that is out is held against the signal by apart, and does not move it.
func TestOutIsHeldAgainstTheSignal(t *testing.T) {
	for _, c := range []struct {
		value int64
		bad   bool
	}{
		{8, false}, {108, false}, {109, true}, {-92, false}, {-93, true}, {greatest, true}, {least, true},
	} {
		check(t, frame{
			h: healths{out}, r: readings{says(c.value), says(7), says(9)}, apart: 100,
			want: is(8, 2), bad: bads{c.bad},
		})
		check(t, frame{
			h: healths{out, out}, r: readings{says(c.value), none, says(8)}, apart: 100,
			want: is(8, 1), bad: bads{c.bad, true},
		})
		// Nothing comes of what one says that is out, not even beside two that are far apart.
		check(t, frame{
			h: healths{out}, r: readings{says(c.value), says(-100), says(100)}, apart: 100,
			want: isNone(2), bad: bads{true, true, true},
		})
	}
}

// P11.1: behind the frame, the health itself, number by number.
func TestHealthBehind(t *testing.T) {
	for _, c := range []struct {
		h    api.Health
		r    api.Reading
		back bool
		want api.Health
	}{
		{in, says(8), false, api.Health{Good: 1}},
		{in, says(500), false, api.Health{Bad: 1}},
		{in, none, false, api.Health{Bad: 1}},
		{api.Health{Bad: 3}, says(8), false, api.Health{Good: 1}},
		{api.Health{Bad: 3}, says(500), false, out},
		{api.Health{Bad: 3}, none, true, out},
		{api.Health{Good: 19}, says(8), true, api.Health{Good: 20}},
		{out, says(8), false, api.Health{Out: true, Good: 1}},
		{out, says(500), false, api.Health{Bad: 5, Out: true}},
		{out, none, true, api.Health{Bad: 5, Out: true}},
		// Its last good frame ahead of coming back, allowed and not, and a bad one instead.
		{api.Health{Out: true, Good: api.Again - 2}, says(8), true, api.Health{Out: true, Good: api.Again - 1}},
		{api.Health{Out: true, Good: api.Again - 1}, says(8), true, in},
		{api.Health{Out: true, Good: api.Again - 1}, says(8), false, api.Health{Out: true, Good: api.Again}},
		{api.Health{Out: true, Good: api.Again - 1}, says(500), true, api.Health{Bad: 1, Out: true}},
		{api.Health{Out: true, Good: api.Again - 1}, none, true, api.Health{Bad: 1, Out: true}},
		{api.Health{Out: true, Good: api.MaxCount}, says(8), false, api.Health{Out: true, Good: api.MaxCount}},
		{api.Health{Bad: api.MaxCount, Out: true}, none, false, api.Health{Bad: api.MaxCount, Out: true}},
		// One that may not be is zero behind the frame, good or bad.
		{odd, says(8), false, in},
		{odd, says(500), false, in},
		{odd, none, true, in},
		{api.Health{Bad: 1, Out: true, Good: 1}, says(8), true, in},
	} {
		for place := range api.Sources {
			h, r := healths{}, readings{says(8), says(8), says(8)}
			h[place], r[place] = c.h, c.r
			got, v := Step(h, r, 100, c.back)
			if got[place] != c.want || v.Value != 8 {
				t.Errorf("Step of %+v, which said %+v, allowed back %t: %+v, not %+v (%+v)", c.h, c.r, c.back, got[place], c.want, v)
			}
		}
	}
}

// P11.1: a source that comes back in this frame does not count for it yet, and counts for the next one.
func TestBackCountsInTheNextFrame(t *testing.T) {
	h := healths{{Out: true, Good: api.Again - 1}}
	r := readings{says(50), says(0), says(100)}
	h, v := Step(h, r, 100, true)
	if v != is(50, 2) || h[0] != in {
		t.Errorf("its last frame outside: %+v, %+v", h, v)
	}
	if _, v = Step(h, readings{says(40), says(0), says(100)}, 100, true); v != is(40, 3) {
		t.Errorf("the frame behind: %+v", v)
	}
}

// P11.1: values at both ends of int64.
func TestEnds(t *testing.T) {
	for _, f := range []frame{
		{r: readings{says(least), says(0), says(greatest)}, apart: 100, want: is(0, 3), bad: bads{true, false, true}},
		{r: readings{says(least), says(least), says(greatest)}, apart: greatest, want: is(least, 3), bad: bads{false, false, true}},
		{r: readings{says(least), says(greatest), says(greatest)}, apart: 0, want: is(greatest, 3), bad: bads{true, false, false}},
		{r: readings{says(least), says(0), says(greatest)}, apart: greatest, want: is(0, 3), bad: bads{true, false, false}},
		{r: readings{says(least), says(-1), says(greatest)}, apart: greatest, want: is(-1, 3), bad: bads{false, false, true}},
		{r: readings{says(least), says(greatest), none}, apart: greatest, want: isNone(2), bad: bads{true, true, true}},
		{r: readings{says(-1), says(greatest), none}, apart: greatest, want: isNone(2), bad: bads{true, true, true}},
		{r: readings{says(0), says(greatest), none}, apart: greatest, want: is(greatest/2, 2), bad: bads{2: true}},
		{r: readings{says(least), says(-1), none}, apart: greatest, want: is(least/2-1, 2), bad: bads{2: true}},
		{r: readings{says(greatest), says(greatest - 1), none}, apart: 1, want: is(greatest-1, 2), bad: bads{2: true}},
		{r: readings{says(least), says(least + 1), none}, apart: 1, want: is(least, 2), bad: bads{2: true}},
		{r: readings{says(least), none, none}, apart: least, want: is(least, 1), bad: bads{false, true, true}},
		{r: readings{says(greatest), none, none}, apart: greatest, want: is(greatest, 1), bad: bads{false, true, true}},
		{h: healths{2: out}, r: readings{says(least), none, says(greatest)}, apart: greatest, want: is(least, 1), bad: bads{false, true, true}},
		{h: healths{2: out}, r: readings{says(least), none, says(-1)}, apart: greatest, want: is(least, 1), bad: bads{false, true, false}},
	} {
		check(t, f)
	}
}

// P11.1: as the chapter's words, told one by one, for many healths, readings and aparts.
func TestStepAgainstWords(t *testing.T) {
	health := []api.Health{in, {Bad: 3}, {Good: 9}, out, {Out: true, Good: api.Again - 1}, odd, {Good: -1}}
	said := []api.Reading{none, {Value: 3}, says(0), says(1), says(100), says(101), says(-100), says(least), says(greatest)}
	var all []frame
	for _, x := range health {
		for _, r := range said {
			all = append(all, frame{h: healths{x}, r: readings{r}})
		}
	}
	for i, a := range all {
		for _, b := range all {
			for _, c := range all {
				h, r := healths{a.h[0], b.h[0], c.h[0]}, readings{a.r[0], b.r[0], c.r[0]}
				apart := []int64{100, 0, -1, greatest, 1, 101, least}[i%7]
				for _, back := range []bool{false, true} {
					gotH, gotV := Step(h, r, apart, back)
					wantH, wantV := words(h, r, apart, back)
					if gotH != wantH || gotV != wantV {
						t.Fatalf("Step(%+v, %+v, %d, %t) = %+v, %+v, not %+v, %+v", h, r, apart, back, gotH, gotV, wantH, wantV)
					}
				}
			}
		}
	}
}

// P11.2: each number of those that are out, in each place; other counts do not matter.
func TestIn(t *testing.T) {
	for _, c := range []struct {
		h    healths
		want int
	}{
		{healths{in, in, in}, 3},
		{healths{out, in, in}, 2},
		{healths{out, out, in}, 1},
		{healths{out, out, out}, 0},
		{healths{{Bad: 3}, {Good: 20}, {Good: api.MaxCount}}, 3},
		{healths{{Out: true}, {Out: true, Good: 1}, {Out: true, Good: api.MaxCount}}, 0},
		{healths{{Out: true}, {Bad: 3}, {Bad: 1, Out: true}}, 1},
		// Out is what it says of itself.
		{healths{odd, in, in}, 3},
		{healths{{Bad: -1, Out: true}, in, in}, 2},
	} {
		for _, places := range orders() {
			h := frame{h: c.h}.put(places).h
			if got := In(h); got != c.want {
				t.Errorf("In(%+v) = %d, not %d", h, got, c.want)
			}
		}
	}
}

// P11.2: each signal by its own Apart: 100, 100, 100 and 2000.
func TestAllByApart(t *testing.T) {
	for signal, apart := range [api.Signals]int64{api.Loc: 100, api.Glide: 100, api.Height: 100, api.Drift: 2000} {
		for _, more := range []int64{0, 1} {
			var h [api.Signals]healths
			var r [api.Signals]readings
			r[signal] = readings{says(10), says(10 + apart + more), none}
			gotH, gotV := All(h, r, false)
			want, bad := is(10+apart/2, 2), bads{2: true}
			if more > 0 {
				want, bad = isNone(2), bads{true, true, true}
			}
			if gotV[signal] != want || gotH[signal] != behind(healths{}, bad, false) {
				t.Errorf("signal %d, two apart by %d: %+v, %+v", signal, apart+more, gotH[signal], gotV[signal])
			}
			for i := range r {
				if i != signal && (gotV[i] != isNone(0) || gotH[i] != behind(healths{}, bads{true, true, true}, false)) {
					t.Errorf("signal %d was told nothing, but is %+v, %+v", i, gotH[i], gotV[i])
				}
			}
		}
	}
}

// P11.2: four signals told different things, allowed back and not.
func TestAllDifferent(t *testing.T) {
	last := api.Health{Out: true, Good: api.Again - 1}
	h := [api.Signals]healths{
		api.Loc:    {in, in, {Bad: 3}},
		api.Glide:  {out, in, in},
		api.Height: {last, out, in},
		api.Drift:  {last, in, odd},
	}
	r := [api.Signals]readings{
		api.Loc:    {says(-20), says(-30), says(900)},
		api.Glide:  {says(41), says(40), says(43)},
		api.Height: {says(1500), none, says(1524)},
		api.Drift:  {says(2500), says(500), says(7)},
	}
	for _, back := range []bool{false, true} {
		behindLast := in
		if !back {
			behindLast = api.Health{Out: true, Good: api.Again}
		}
		wantH := [api.Signals]healths{
			api.Loc:    {{Good: 1}, {Good: 1}, out},
			api.Glide:  {{Out: true, Good: 1}, {Good: 1}, {Good: 1}},
			api.Height: {behindLast, {Bad: 5, Out: true}, {Good: 1}},
			api.Drift:  {behindLast, {Good: 1}, in},
		}
		wantV := [api.Signals]api.Voted{
			api.Loc:    is(-20, 3),
			api.Glide:  is(41, 2),
			api.Height: is(1524, 1),
			api.Drift:  is(500, 1),
		}
		gotH, gotV := All(h, r, back)
		if gotH != wantH || gotV != wantV {
			t.Errorf("All, allowed back %t: %+v, %+v, not %+v, %+v", back, gotH, gotV, wantH, wantV)
		}
	}
}

// P11.2: All is Step of each signal, whatever the other ones are told.
func TestAllAgainstStep(t *testing.T) {
	apart := [api.Signals]int64{100, 100, 100, 2000}
	state := uint64(1)
	next := func(n int) int {
		state = state*6364136223846793005 + 1442695040888963407
		return int(state>>33) % n
	}
	health := []api.Health{in, in, {Bad: 3}, {Good: 9}, out, {Out: true, Good: api.Again - 1}, odd}
	for range 5000 {
		var h [api.Signals]healths
		var r [api.Signals]readings
		for i := range h {
			for k := range h[i] {
				h[i][k] = health[next(len(health))]
				r[i][k] = api.Reading{Is: next(5) > 0, Value: int64(next(60)*100 - 3000 + next(2))}
			}
		}
		back := next(2) == 0
		gotH, gotV := All(h, r, back)
		for i := range h {
			wantH, wantV := words(h[i], r[i], apart[i], back)
			if gotH[i] != wantH || gotV[i] != wantV {
				t.Fatalf("All(%+v, %+v, %t): signal %d: %+v, %+v, not %+v, %+v", h, r, back, i, gotH[i], gotV[i], wantH, wantV)
			}
		}
	}
}

// P11.1, P11.2: what was handed in stays as it was.
func TestArgumentsStay(t *testing.T) {
	h := [api.Signals]healths{{in, out, odd}, {in, in, {Bad: 3}}, {{Good: 5}, in, in}, {out, out, out}}
	r := [api.Signals]readings{{says(1), says(2), says(3)}, {says(1), none, says(900)}, {none, none, none}, {says(7), {Value: 7}, says(8)}}
	keptH, keptR := h, r
	All(h, r, true)
	for i := range h {
		Step(h[i], r[i], 100, true)
		In(h[i])
	}
	if h != keptH || r != keptR {
		t.Errorf("handed in, they came to be %+v, %+v", h, r)
	}
}

// P11.3: a source that is bad in fewer than Persist frames, one behind the other, is in, and in Persist frames, out.
func TestBadInPersist(t *testing.T) {
	for _, wrong := range []api.Reading{says(101), says(greatest), says(least), none} {
		for place := range api.Sources {
			var h healths
			r := readings{says(0), says(0), says(0)}
			r[place] = wrong
			of := 2
			if wrong.Is {
				of = 3
			}
			for n := 1; n <= api.Persist; n++ {
				var v api.Voted
				if h, v = Step(h, r, 100, true); v != is(0, of) {
					t.Errorf("%+v in place %d, frame %d: the signal comes to %+v", wrong, place, n, v)
				}
				if h[place].Out != (n >= api.Persist) || h[place].Bad != n {
					t.Errorf("%+v in place %d, bad in %d frames: %+v", wrong, place, n, h[place])
				}
			}
			// Behind that the two others alone are the signal, whatever it says.
			for _, x := range []api.Reading{wrong, says(0), says(3)} {
				r[place] = x
				if _, v := Step(h, r, 100, true); v != is(0, 2) {
					t.Errorf("%+v in place %d, which is out: the signal comes to %+v", x, place, v)
				}
			}
		}
	}
}

// P11.3: a good frame among the bad ones, and its count begins anew.
func TestBadButNotInPersist(t *testing.T) {
	var h healths
	for n := range 100 {
		r := readings{says(0), says(0), says(0)}
		if n%api.Persist != 0 {
			r[1] = says(500)
		}
		if h, _ = Step(h, r, 100, false); h[1].Out {
			t.Fatalf("out in frame %d: %+v", n, h)
		}
	}
}

// P11.3: two that are far apart, the third one out: none, and behind Persist frames nobody is in.
func TestTwoFarApartGoOut(t *testing.T) {
	h := healths{2: out}
	for n := 1; n <= api.Persist; n++ {
		var v api.Voted
		h, v = Step(h, readings{says(0), says(101), says(50)}, 100, true)
		if v != isNone(2) || (In(h) == 0) != (n == api.Persist) {
			t.Errorf("frame %d: %+v, %+v", n, h, v)
		}
	}
	if _, v := Step(h, readings{says(50), says(50), says(50)}, 100, true); v != isNone(0) {
		t.Errorf("nobody is in, but the signal comes to %+v", v)
	}
}

// P11.3: two that are in, no further than e from a number and no further apart than apart,
// beside a third one that is absent, or says whatever it may: the signal is no further than e from it.
func TestTwoAgree(t *testing.T) {
	thirds := []api.Reading{none, says(0), says(1), says(-1), says(least), says(greatest), says(50), says(-50), says(101), says(-777)}
	for _, number := range []int64{0, 7, -7, 100000, least + 200, greatest - 200} {
		for _, e := range []int64{0, 1, 2, 49, 50, 51, 100} {
			for _, p := range []int64{-e, -e / 2, 0, e / 2, e} {
				for _, q := range []int64{-e, -e / 2, 0, e / 2, e} {
					if p-q > 100 || q-p > 100 {
						continue
					}
					for _, third := range thirds {
						for _, x := range []api.Health{in, out, odd} {
							f := frame{h: healths{2: x}, r: readings{says(number + p), says(number + q), third}}
							agree(t, f, number, e)
						}
					}
				}
			}
		}
	}
}

// agree asks in each order whether a signal is there, and no further than e from a number.
func agree(t *testing.T, f frame, number, e int64) {
	t.Helper()
	for _, places := range orders() {
		g := f.put(places)
		_, v := Step(g.h, g.r, 100, false)
		if !v.Is || distance(v.Value, number).Cmp(big.NewInt(e)) > 0 {
			t.Errorf("Step(%+v, %+v) comes to %+v, further than %d from %d", g.h, g.r, v, e, number)
		}
	}
}
