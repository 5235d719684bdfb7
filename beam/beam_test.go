package beam

import (
	"math"
	"slices"
	"testing"

	"flarepath/api"
)

const (
	most  = api.MaxCount
	least = math.MinInt
	end   = math.MaxInt
)

// frame is what the signals come to in one frame.
type frame = [api.Signals]api.Voted

// at is a signal that is there.
func at(n int64) api.Voted { return api.Voted{Is: true, Value: n, Of: 3} }

// none is a signal that is not there, whatever its Value says.
func none(n int64) api.Voted { return api.Voted{Value: n} }

// of is a frame of which only Loc and Glide are there.
func of(loc, glide int64) frame {
	return frame{api.Loc: at(loc), api.Glide: at(glide)}
}

// frames are n times the same frame.
func frames(n int, v frame) []frame {
	return slices.Repeat([]frame{v}, n)
}

// wides are signals that are wide, at the edge and at both ends.
func wides() []api.Voted {
	return []api.Voted{
		at(501), at(-501), at(502), at(-502), at(1 << 32), at(-1 << 32), at(math.MaxInt64), at(math.MinInt64),
		{Is: true, Value: 501}, {Is: true, Value: -501, Of: -1},
	}
}

// narrows are signals that are not wide: within the edge, or not there, whatever their Value says.
func narrows() []api.Voted {
	return []api.Voted{
		at(500), at(-500), at(499), at(-499), at(301), at(-301), at(1), at(-1), at(0),
		none(0), none(500), none(501), none(-501), none(math.MaxInt64), none(math.MinInt64),
		{Value: 501, Of: 3}, {Value: math.MinInt64, Of: 3},
	}
}

// counts are the numbers at which a count may go on in another way: all of 0 to 5, its ends with both sides, and both ends of int.
func counts() []int {
	return []int{
		0, 1, 2, 3, 4, 5, 6, 1000, most - 2, most - 1, most,
		-1, -2, -most, least, least + 1, most + 1, most + 2, math.MaxInt32, math.MaxUint32, end - 1, end,
	}
}

// behind is what the chapter's words make of one count.
func behind(count int, wide bool) int {
	switch {
	case !wide:
		return 0
	case count < 0 || count > most:
		return 1
	case count == most:
		return most
	}
	return count + 1
}

// wantNext asks Next, and whether what was handed in stays as it is.
func wantNext(t *testing.T, n [2]int, v frame, want [2]int) {
	t.Helper()
	keptN, keptV := n, v
	if got := Next(n, v); got != want {
		t.Fatalf("Next(%v, %v) = %v, not %v", n, v, got, want)
	}
	if n != keptN || v != keptV {
		t.Fatalf("Next made %v and %v of %v and %v", n, v, keptN, keptV)
	}
}

// wantOff asks Off, and whether what was handed in stays as it is.
func wantOff(t *testing.T, n [2]int, want bool) {
	t.Helper()
	kept := n
	if got := Off(n); got != want {
		t.Fatalf("Off(%v) = %t", n, got)
	}
	if n != kept {
		t.Fatalf("Off made %v of %v", n, kept)
	}
}

// wantRun asks Run, and whether what was handed in stays as it is, the room behind the frames' end too.
func wantRun(t *testing.T, n [2]int, l []frame, want [2]int) {
	t.Helper()
	keptN, room := n, l[:cap(l)]
	keptRoom := slices.Clone(room)
	if got := Run(n, l); got != want {
		t.Fatalf("Run(%v, %v) = %v, not %v", n, l, got, want)
	}
	if n != keptN || !slices.Equal(room, keptRoom) {
		t.Fatalf("Run made %v and %v of %v and %v", n, room, keptN, keptRoom)
	}
}

// The chapter's table of examples.
func TestExamples(t *testing.T) {
	l := frames(4, of(501, 0))
	wantRun(t, [2]int{}, l, [2]int{4, 0})
	wantOff(t, Run([2]int{}, l), true)
	l[3] = of(0, 0)
	wantRun(t, [2]int{}, l, [2]int{0, 0})
	wantOff(t, Run([2]int{}, l), false)
}

// P20.1: what the limits are that the edges below are made of.
func TestLimits(t *testing.T) {
	if api.Persist != 4 || api.MaxCount != 65536 {
		t.Errorf("the limits are %d and %d", api.Persist, api.MaxCount)
	}
}

// P20.1: Next of some, written out.
func TestNextOfSome(t *testing.T) {
	for _, example := range []struct {
		n, want [2]int
		v       frame
	}{
		{[2]int{0, 0}, [2]int{1, 0}, of(501, 500)},
		{[2]int{0, 0}, [2]int{0, 1}, of(500, 501)},
		{[2]int{0, 0}, [2]int{1, 1}, of(501, -501)},
		{[2]int{0, 0}, [2]int{0, 0}, of(500, -500)},
		{[2]int{3, 2}, [2]int{4, 0}, of(-501, 0)},
		{[2]int{3, 2}, [2]int{0, 3}, of(0, 9999)},
		{[2]int{3, 2}, [2]int{4, 3}, of(math.MinInt64, math.MaxInt64)},
		{[2]int{3, 2}, [2]int{0, 0}, of(0, 0)},
		{[2]int{3, 2}, [2]int{0, 0}, frame{}},
		{[2]int{3, 2}, [2]int{0, 0}, frame{none(501), none(-501), none(501), none(501)}},
		{[2]int{3, 2}, [2]int{4, 0}, frame{at(501), none(501), at(0), at(0)}},
		{[2]int{3, 2}, [2]int{0, 3}, frame{none(501), at(501), at(0), at(0)}},
		{[2]int{1, most - 1}, [2]int{2, most}, of(501, 501)},
		{[2]int{most, most - 1}, [2]int{most, most}, of(501, 501)},
		{[2]int{most, most}, [2]int{most, most}, of(-501, -501)},
		{[2]int{most, most}, [2]int{0, most}, of(500, 501)},
		{[2]int{most, most}, [2]int{most, 0}, of(501, 500)},
		{[2]int{-1, most + 1}, [2]int{1, 1}, of(501, 501)},
		{[2]int{least, end}, [2]int{1, 1}, of(501, 501)},
		{[2]int{end, least}, [2]int{1, 1}, of(501, 501)},
		{[2]int{-1, most + 1}, [2]int{0, 0}, of(500, -500)},
		{[2]int{least, end}, [2]int{0, 0}, frame{}},
		// One that may not be changes nothing of the other one.
		{[2]int{-1, 7}, [2]int{1, 8}, of(501, 501)},
		{[2]int{7, most + 1}, [2]int{8, 1}, of(501, 501)},
		{[2]int{least, 7}, [2]int{0, 8}, of(0, 501)},
		{[2]int{7, end}, [2]int{8, 0}, of(501, 0)},
	} {
		wantNext(t, example.n, example.v, example.want)
	}
}

// P20.1: each edge of each count, with a wide signal and with one that is not, by itself: the other count is as the chapter's words make it.
func TestNextAtEdges(t *testing.T) {
	for _, example := range []struct{ count, wide int }{
		{0, 1}, {1, 2}, {2, 3}, {3, 4}, {4, 5}, {most - 2, most - 1}, {most - 1, most}, {most, most},
		{-1, 1}, {-2, 1}, {-most, 1}, {least, 1}, {most + 1, 1}, {most + 2, 1}, {math.MaxUint32, 1}, {end, 1},
	} {
		for _, other := range counts() {
			wantNext(t, [2]int{example.count, other}, of(501, 0), [2]int{example.wide, 0})
			wantNext(t, [2]int{other, example.count}, of(0, 501), [2]int{0, example.wide})
			wantNext(t, [2]int{example.count, other}, of(501, 501), [2]int{example.wide, behind(other, true)})
			wantNext(t, [2]int{other, example.count}, of(501, 501), [2]int{behind(other, true), example.wide})
			wantNext(t, [2]int{example.count, other}, of(0, 501), [2]int{0, behind(other, true)})
			wantNext(t, [2]int{other, example.count}, of(501, 0), [2]int{behind(other, true), 0})
			wantNext(t, [2]int{example.count, other}, of(0, 0), [2]int{0, 0})
		}
	}
}

// P20.1: Loc's count goes by Loc alone and Glide's by Glide alone, over each two of the counts and of the signals, whatever Height and Drift are.
func TestNextOfEachSignal(t *testing.T) {
	type signal struct {
		api.Voted
		wide bool
	}
	var signals []signal
	for _, v := range wides() {
		signals = append(signals, signal{v, true})
	}
	for _, v := range narrows() {
		signals = append(signals, signal{v, false})
	}
	others := []frame{
		{},
		{api.Height: at(501), api.Drift: at(-501)},
		{api.Height: at(math.MinInt64), api.Drift: none(501)},
		{api.Height: none(math.MaxInt64), api.Drift: at(math.MaxInt64)},
		{api.Height: at(0), api.Drift: at(0)},
	}
	for _, loc := range signals {
		for _, glide := range signals {
			for _, v := range others {
				v[api.Loc], v[api.Glide] = loc.Voted, glide.Voted
				for _, first := range counts() {
					for _, second := range counts() {
						want := [2]int{behind(first, loc.wide), behind(second, glide.wide)}
						wantNext(t, [2]int{first, second}, v, want)
					}
				}
			}
		}
	}
}

// P20.1: the edge of wide, number by number, on both sides of 0, for each of the two.
func TestNextByDistance(t *testing.T) {
	for n := int64(-1100); n <= 1100; n++ {
		wide := n > 500 || n < -500
		wantNext(t, [2]int{2, 6}, of(n, 0), [2]int{behind(2, wide), 0})
		wantNext(t, [2]int{2, 6}, of(0, n), [2]int{0, behind(6, wide)})
		wantNext(t, [2]int{2, 6}, of(n, 501), [2]int{behind(2, wide), 7})
		wantNext(t, [2]int{2, 6}, of(501, n), [2]int{3, behind(6, wide)})
		wantNext(t, [2]int{2, 6}, frame{none(n), none(n)}, [2]int{0, 0})
	}
}

// P20.1: Off of each pair of 0 to 5: just if one of the two is 4 at least.
func TestOffOfPairs(t *testing.T) {
	want := [6][6]bool{
		{false, false, false, false, true, true},
		{false, false, false, false, true, true},
		{false, false, false, false, true, true},
		{false, false, false, false, true, true},
		{true, true, true, true, true, true},
		{true, true, true, true, true, true},
	}
	for first := range want {
		for second, off := range want[first] {
			wantOff(t, [2]int{first, second}, off)
		}
	}
}

// P20.1: Off of each pair of the edges, counts that may not be among them: just if one of the two is Persist at least.
func TestOffAtEdges(t *testing.T) {
	for _, count := range []int{api.Persist, 5, most - 1, most, most + 1, math.MaxUint32, end} {
		for _, other := range counts() {
			wantOff(t, [2]int{count, other}, true)
			wantOff(t, [2]int{other, count}, true)
		}
	}
	few := []int{api.Persist - 1, 2, 1, 0, -1, -api.Persist, -most, least}
	for _, first := range few {
		for _, second := range few {
			wantOff(t, [2]int{first, second}, false)
		}
	}
}

// P20.1: Run of no frames: the counts as they were handed in, those that may not be too; nil and empty are the same.
func TestRunOfNone(t *testing.T) {
	for _, first := range counts() {
		for _, second := range counts() {
			n := [2]int{first, second}
			wantRun(t, n, nil, n)
			wantRun(t, n, []frame{}, n)
			wantRun(t, n, frames(3, of(501, 501))[:0], n)
		}
	}
}

// P20.1: Run of one frame is Next.
func TestRunOfOne(t *testing.T) {
	for _, first := range counts() {
		for _, second := range counts() {
			for _, v := range []frame{{}, of(0, 0), of(501, 0), of(0, -501), of(501, 501)} {
				n := [2]int{first, second}
				want := [2]int{behind(first, v[api.Loc].Value != 0), behind(second, v[api.Glide].Value != 0)}
				wantRun(t, n, []frame{v}, want)
				if got := Next(n, v); got != want {
					t.Fatalf("Next(%v, %v) = %v, and Run makes %v", n, v, got, want)
				}
			}
		}
	}
}

// mixed are n frames by a rule that mixes them: each of the two signals wide most of the time, often enough there.
func mixed(n int, seed uint64) []frame {
	signals := append(slices.Repeat(wides(), 5), narrows()...)
	var l []frame
	for range n {
		var v frame
		for i := range v {
			seed = seed*6364136223846793005 + 1442695040888963407
			v[i] = signals[int(seed>>33)%len(signals)]
		}
		l = append(l, v)
	}
	return l
}

// P20.1: Run of many frames is Next by each, from each of the counts, and frames and then the frames behind them are the same as all of them.
func TestRunOfMany(t *testing.T) {
	l := mixed(24, 3)
	for _, first := range counts() {
		for _, second := range counts() {
			start := [2]int{first, second}
			steps := [][2]int{start}
			for _, v := range l {
				steps = append(steps, Next(steps[len(steps)-1], v))
			}
			for cut := range steps {
				// The room behind this end holds frames that are not the run's.
				wantRun(t, start, l[:cut], steps[cut])
				wantRun(t, steps[cut], l[cut:], steps[len(l)])
			}
		}
	}
}

// P20.1: a count grows by 1 in each frame up to MaxCount and stays there; one frame that is not wide takes it to 0.
func TestRunToTheEnd(t *testing.T) {
	l := frames(most+3, of(501, -501))
	for _, example := range []struct{ frames, want int }{
		{0, 0}, {1, 1}, {3, 3}, {4, 4}, {5, 5}, {1000, 1000}, {most - 1, most - 1}, {most, most}, {most + 1, most}, {most + 3, most},
	} {
		if got := Run([2]int{}, l[:example.frames]); got != [2]int{example.want, example.want} {
			t.Errorf("Run of %d frames = %v", example.frames, got)
		}
	}
	if got := Run([2]int{least, end}, l); got != [2]int{most, most} {
		t.Errorf("Run of counts that may not be = %v", got)
	}
	l = append(l, of(501, 0))
	if got := Run([2]int{}, l); got != [2]int{most, 0} {
		t.Errorf("Run = %v", got)
	}
	l = append(l, of(0, 501))
	if got := Run([2]int{}, l); got != [2]int{0, 1} {
		t.Errorf("Run = %v", got)
	}
}

// lastsWide tells by the frames themselves whether a signal was wide in each of the last Persist ones.
func lastsWide(l []frame, signal int) bool {
	if len(l) < api.Persist {
		return false
	}
	for _, v := range l[len(l)-api.Persist:] {
		s := v[signal]
		if !s.Is || s.Value >= -500 && s.Value <= 500 {
			return false
		}
	}
	return true
}

// wantOffBehind asks, behind each of the frames from 0 0 on, whether it is off the beam, and tells how often it was.
func wantOffBehind(t *testing.T, l []frame) int {
	t.Helper()
	times := 0
	for many := range len(l) + 1 {
		past := l[:many]
		want := lastsWide(past, api.Loc) || lastsWide(past, api.Glide)
		if got := Off(Run([2]int{}, past)); got != want {
			t.Fatalf("behind %v it is off the beam: %t", past, got)
		}
		if want {
			times++
		}
	}
	return times
}

// P20.2: over all runs of seven frames, each of the two signals wide or not, or not there: off the beam just if one of the two was wide in each of the last Persist frames.
func TestOffOverAllRuns(t *testing.T) {
	kinds := [4]frame{{none(501), at(0)}, of(501, 0), of(0, -501), of(-501, 501)}
	times := 0
	for number := range 1 << 14 {
		var l []frame
		for place := range 7 {
			l = append(l, kinds[number>>(2*place)&3])
		}
		times += wantOffBehind(t, l)
	}
	if times == 0 {
		t.Error("it never was off the beam")
	}
}

// P20.2: the same over long runs of all signals, and over counts that were carried on frame by frame.
func TestOffOverLongRuns(t *testing.T) {
	times := 0
	for seed := range uint64(40) {
		l := mixed(200, seed)
		times += wantOffBehind(t, l)
		n := [2]int{}
		for i, v := range l {
			n = Next(n, v)
			if Off(n) != (lastsWide(l[:i+1], api.Loc) || lastsWide(l[:i+1], api.Glide)) {
				t.Fatalf("behind frame %d of %d: %v", i+1, seed, n)
			}
		}
	}
	if times == 0 || times == 40*200 {
		t.Errorf("it was off the beam %d times", times)
	}
}

// P20.2: fewer than Persist frames one behind the other, however often and of whichever signal, are not off the beam; Persist of them are.
func TestFewerThanPersist(t *testing.T) {
	for _, wide := range []frame{of(501, 0), of(0, 501), of(501, 501), {at(-501), none(501)}, {none(501), at(-501)}} {
		for _, pause := range []frame{{}, of(0, 0), of(500, -500), {none(501), none(-501)}} {
			var l []frame
			for range 30 {
				for range api.Persist - 1 {
					l = append(l, wide)
					wantOff(t, Run([2]int{}, l), false)
				}
				l = append(l, pause)
				wantOff(t, Run([2]int{}, l), false)
			}
			wantOff(t, Run([2]int{}, append(l, frames(api.Persist-1, wide)...)), false)
			wantOff(t, Run([2]int{}, append(l, frames(api.Persist, wide)...)), true)
		}
	}
}

// P20.2: the two wide in turns are not off the beam, however long that goes on; frames in which both are wide count for each.
func TestWideInTurns(t *testing.T) {
	for turn := 1; turn < api.Persist; turn++ {
		var l []frame
		for range 20 {
			l = append(l, frames(turn, of(501, 0))...)
			l = append(l, frames(turn, of(0, 501))...)
		}
		if times := wantOffBehind(t, l); times != 0 {
			t.Errorf("in turns of %d it was off the beam %d times", turn, times)
		}
	}
	l := slices.Concat(frames(2, of(501, 0)), frames(2, of(501, 501)), frames(2, of(0, 501)))
	for many, want := range []bool{false, false, false, false, true, false, true} {
		wantOff(t, Run([2]int{}, l[:many]), want)
	}
}

// What a call answers hangs on nothing that was asked before it.
func TestAskedAgain(t *testing.T) {
	n, l := [2]int{1, 2}, mixed(50, 9)
	first := Run(n, l)
	for range 3 {
		Next([2]int{3, 3}, of(501, 501))
		Run([2]int{9, 9}, frames(5, of(0, 0)))
		wantRun(t, n, l, first)
		wantNext(t, n, of(501, 0), [2]int{2, 0})
		wantOff(t, n, false)
	}
}
