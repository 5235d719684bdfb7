package persist

import (
	"math"
	"slices"
	"testing"

	"flarepath/api"
)

const (
	most  = api.MaxCount
	least = math.MinInt
	end   = math.MaxInt
)

// in and out are healths of a source that is in, and of one that is out.
func in(bad, good int) api.Health {
	return api.Health{Bad: bad, Good: good}
}

func out(bad, good int) api.Health {
	return api.Health{Bad: bad, Out: true, Good: good}
}

// frames are n frames that are all bad, or all good.
func frames(n int, bad bool) []bool {
	return slices.Repeat([]bool{bad}, n)
}

// counts are numbers around each limit of the chapter, and the ends of int.
func counts() []int {
	all := []int{least, -most, end}
	for _, n := range []int{0, api.Persist, api.Again, most} {
		all = append(all, n-2, n-1, n, n+1)
	}
	return all
}

// healthsAround are all healths of such counts, those that may not be too.
func healthsAround() []api.Health {
	var all []api.Health
	for _, bad := range counts() {
		for _, good := range counts() {
			all = append(all, in(bad, good), out(bad, good))
		}
	}
	return all
}

// P10.1: both ends of Bad and of Good and one beyond each, both above 0, and Bad at Persist, out and not out.
func TestMay(t *testing.T) {
	for _, c := range []struct {
		h    api.Health
		want bool
	}{
		{in(0, 0), true},
		{out(0, 0), true},
		{in(-1, 0), false},
		{out(-1, 0), false},
		{in(0, -1), false},
		{out(0, -1), false},
		{in(-1, -1), false},
		{out(-1, 1), false},
		{out(1, -1), false},
		{in(least, 0), false},
		{out(0, least), false},
		{in(0, 1), true},
		{out(0, 1), true},
		{in(0, api.Again-1), true},
		{in(0, api.Again), true},
		{out(0, api.Again), true},
		{out(0, api.Again+1), true},
		{in(0, most-1), true},
		{in(0, most), true},
		{out(0, most), true},
		{in(0, most+1), false},
		{out(0, most+1), false},
		{out(0, end), false},
		{out(most, 0), true},
		{out(most+1, 0), false},
		{out(end, 0), false},
		{in(most, 0), false},
		{in(most+1, 0), false},
		{in(1, 1), false},
		{out(1, 1), false},
		{in(api.Persist-1, 1), false},
		{out(api.Persist, 1), false},
		{out(1, api.Again), false},
		{out(most, most), false},
		{in(1, 0), true},
		{in(api.Persist-1, 0), true},
		{in(api.Persist, 0), false},
		{in(api.Persist+1, 0), false},
		{out(1, 0), true},
		{out(api.Persist-1, 0), true},
		{out(api.Persist, 0), true},
		{out(api.Persist+1, 0), true},
	} {
		if got := May(c.h); got != c.want {
			t.Errorf("May(%+v) = %t, not %t", c.h, got, c.want)
		}
	}
}

// P10.1: a bad frame and a good one, of a source that is in and of one that is out, not allowed back and allowed.
func TestNext(t *testing.T) {
	for _, c := range []struct {
		h                   api.Health
		bad, good, goodBack api.Health
	}{
		{in(0, 0), in(1, 0), in(0, 1), in(0, 1)},
		{in(1, 0), in(2, 0), in(0, 1), in(0, 1)},
		// One below Persist: it is out by the next bad frame, and in behind a good one.
		{in(api.Persist-2, 0), in(api.Persist-1, 0), in(0, 1), in(0, 1)},
		{in(api.Persist-1, 0), out(api.Persist, 0), in(0, 1), in(0, 1)},
		// One that is in does not come back: its count goes on.
		{in(0, 7), in(1, 0), in(0, 8), in(0, 8)},
		{in(0, api.Again-1), in(1, 0), in(0, api.Again), in(0, api.Again)},
		{in(0, api.Again), in(1, 0), in(0, api.Again+1), in(0, api.Again+1)},
		{in(0, most-1), in(1, 0), in(0, most), in(0, most)},
		{in(0, most), in(1, 0), in(0, most), in(0, most)},
		// One that is out stays out, at counts that would be in too.
		{out(0, 0), out(1, 0), out(0, 1), out(0, 1)},
		{out(1, 0), out(2, 0), out(0, 1), out(0, 1)},
		{out(api.Persist-1, 0), out(api.Persist, 0), out(0, 1), out(0, 1)},
		{out(api.Persist, 0), out(api.Persist+1, 0), out(0, 1), out(0, 1)},
		{out(api.Again, 0), out(api.Again+1, 0), out(0, 1), out(0, 1)},
		{out(most-1, 0), out(most, 0), out(0, 1), out(0, 1)},
		{out(most, 0), out(most, 0), out(0, 1), out(0, 1)},
		// One below Again: it is back by the next good frame, if that is allowed.
		{out(0, api.Again-2), out(1, 0), out(0, api.Again-1), out(0, api.Again-1)},
		{out(0, api.Again-1), out(1, 0), out(0, api.Again), in(0, 0)},
		{out(0, api.Again), out(1, 0), out(0, api.Again+1), in(0, 0)},
		{out(0, api.Again+5), out(1, 0), out(0, api.Again+6), in(0, 0)},
		{out(0, most-1), out(1, 0), out(0, most), in(0, 0)},
		{out(0, most), out(1, 0), out(0, most), in(0, 0)},
	} {
		for _, f := range []struct {
			bad, back bool
			want      api.Health
		}{{true, false, c.bad}, {true, true, c.bad}, {false, false, c.good}, {false, true, c.goodBack}} {
			if got := Next(c.h, f.bad, f.back); got != f.want {
				t.Errorf("Next(%+v, %t, %t) = %+v, not %+v", c.h, f.bad, f.back, got, f.want)
			}
		}
	}
}

// P10.1: of a health that may not be, a zero one, whatever the frame; of one that may be, one that may be.
func TestNextOfOneThatMayNotBe(t *testing.T) {
	for _, h := range healthsAround() {
		for _, bad := range []bool{false, true} {
			for _, back := range []bool{false, true} {
				got := Next(h, bad, back)
				if !May(h) && got != (api.Health{}) {
					t.Errorf("Next(%+v, %t, %t) = %+v, not a zero one", h, bad, back, got)
				}
				if !May(got) {
					t.Errorf("Next(%+v, %t, %t) = %+v, which may not be", h, bad, back, got)
				}
			}
		}
	}
}

// P10.2: none, nil too, one and many frames.
func TestRun(t *testing.T) {
	lasting := Run(in(0, 0), frames(4, true), false)
	for _, c := range []struct {
		h    api.Health
		bad  []bool
		back bool
		want api.Health
	}{
		// The chapter's examples.
		{in(0, 0), []bool{true, true, true, false}, false, in(0, 1)},
		{in(0, 0), frames(4, true), false, out(4, 0)},
		{lasting, frames(20, false), true, in(0, 0)},
		{lasting, frames(20, false), false, out(0, 20)},
		{in(0, 0), nil, false, in(0, 0)},
		{in(3, 0), nil, true, in(3, 0)},
		{out(0, 30), nil, true, out(0, 30)},
		{out(0, 30), []bool{}, true, out(0, 30)},
		{out(most, 0), make([]bool, 0, 3), true, out(most, 0)},
		{in(0, 0), []bool{true}, false, in(1, 0)},
		{in(0, 0), []bool{false}, false, in(0, 1)},
		{in(3, 0), []bool{true}, true, out(4, 0)},
		{out(0, 19), []bool{false}, true, in(0, 0)},
		{out(0, 19), []bool{false}, false, out(0, 20)},
		// Behind coming back it counts from 0 on, and may be out again.
		{lasting, frames(21, false), true, in(0, 1)},
		{lasting, append(frames(20, false), frames(4, true)...), true, out(4, 0)},
		{lasting, append(frames(20, false), frames(3, true)...), true, in(3, 0)},
		{in(0, 0), frames(20, false), true, in(0, 20)},
		{in(0, 0), frames(most+9, false), true, in(0, most)},
		{in(0, 0), frames(most+9, true), true, out(most, 0)},
		{lasting, frames(most+9, false), false, out(0, most)},
		// Where there is no frame, no Next makes one that may not be a zero one; where there is, the first does.
		{in(4, 0), nil, false, in(4, 0)},
		{in(-1, -1), []bool{}, false, in(-1, -1)},
		{in(4, 0), []bool{true}, false, in(0, 0)},
		{in(1, 1), []bool{false, false, false}, false, in(0, 2)},
		{out(most+1, 0), frames(5, true), false, out(4, 0)},
	} {
		if got := Run(c.h, c.bad, c.back); got != c.want {
			t.Errorf("Run(%+v, %d frames, %t) = %+v, not %+v", c.h, len(c.bad), c.back, got, c.want)
		}
	}
}

// P10.2: as Next by each frame, and as a Run behind a Run, wherever the frames are cut.
func TestRunAgainstNext(t *testing.T) {
	bad := slices.Concat(frames(3, true), frames(2, false), frames(5, true), frames(21, false), frames(4, true), frames(19, false), frames(1, true), frames(24, false))
	for _, h := range healthsAround() {
		for _, back := range []bool{false, true} {
			want := h
			whole := Run(h, bad, back)
			for i, was := range bad {
				if got := Run(h, bad[:i], back); got != want {
					t.Fatalf("Run(%+v, %d frames, %t) = %+v, not %+v", h, i, back, got, want)
				}
				if got := Run(want, bad[i:], back); got != whole {
					t.Fatalf("Run(%+v, ..) behind %d frames = %+v, not %+v", want, i, got, whole)
				}
				want = Next(want, was, back)
			}
			if whole != want {
				t.Fatalf("Run(%+v, all frames, %t) = %+v, not %+v", h, back, whole, want)
			}
		}
	}
}

// P10.2: what is behind the end of the frames does not count, and they and the room behind their end stay as they are.
func TestRunLeavesTheFrames(t *testing.T) {
	whole := []bool{true, true, true, true, false, true, false, false}
	want := []api.Health{in(0, 0), in(1, 0), in(2, 0), in(3, 0), out(4, 0), out(0, 1), out(1, 0), out(0, 1), out(0, 2)}
	for n := range len(whole) + 1 {
		room := slices.Clone(whole)
		if got := Run(in(0, 0), room[:n], true); got != want[n] {
			t.Errorf("Run of the first %d = %+v, not %+v", n, got, want[n])
		}
		if !slices.Equal(room, whole) {
			t.Errorf("Run of the first %d made %t of %t", n, room, whole)
		}
	}
}

// P10.3: fewer than Persist bad frames one behind the other leave it in, however often they come.
func TestFewBadFramesLeaveItIn(t *testing.T) {
	for n := range api.Persist {
		for _, back := range []bool{false, true} {
			bad := slices.Repeat(append(frames(n, true), false), 50)
			for i := range bad {
				if h := Run(in(0, 0), bad[:i+1], back); h.Out {
					t.Fatalf("%d bad frames at a time: out behind frame %d", n, i+1)
				}
			}
		}
	}
	if h := Run(in(0, 0), frames(api.Persist, true), true); !h.Out {
		t.Errorf("in behind %d bad frames", api.Persist)
	}
}

// P10.3: one that is not allowed back stays out, however many frames are good.
func TestNotAllowedBackStaysOut(t *testing.T) {
	for _, n := range []int{1, api.Again - 1, api.Again, api.Again + 1, 1000, most, most + 100} {
		if h := Run(out(4, 0), frames(n, false), false); h != out(0, min(n, most)) {
			t.Errorf("behind %d good frames it is %+v", n, h)
		}
	}
}

// P10.3: one that is allowed back is in behind Again good frames one behind the other, and not ahead of that.
func TestBackBehindAgain(t *testing.T) {
	for _, h := range []api.Health{out(0, 0), out(1, 0), out(4, 0), out(most, 0)} {
		for n := range api.Again {
			if got := Run(h, frames(n, false), true); !got.Out {
				t.Errorf("Run(%+v, %d good frames) = %+v, in", h, n, got)
			}
			// A bad frame behind n good ones, and the count begins anew.
			cut := append(frames(n, false), true)
			if got := Run(h, append(cut, frames(api.Again-1, false)...), true); got != out(0, api.Again-1) {
				t.Errorf("Run(%+v, %d good frames, a bad one, %d good ones) = %+v", h, n, api.Again-1, got)
			}
			if got := Run(h, append(cut, frames(api.Again, false)...), true); got != in(0, 0) {
				t.Errorf("Run(%+v, %d good frames, a bad one, %d good ones) = %+v", h, n, api.Again, got)
			}
		}
		if got := Run(h, frames(api.Again, false), true); got != in(0, 0) {
			t.Errorf("Run(%+v, %d good frames) = %+v, not a zero one", h, api.Again, got)
		}
	}
}

// P10.3: allowed only when it was good for Again frames and more, it is back by the next good frame, not by a bad one.
func TestAllowedLate(t *testing.T) {
	for _, n := range []int{api.Again - 1, api.Again, api.Again + 1, 500, most, most + 1} {
		waiting := Run(out(4, 0), frames(n, false), false)
		if !waiting.Out {
			t.Errorf("behind %d good frames, not allowed back: %+v, in", n, waiting)
		}
		if got := Next(waiting, false, true); got != in(0, 0) {
			t.Errorf("allowed behind %d good frames: %+v, not a zero one", n, got)
		}
		if got := Next(waiting, true, true); got != out(1, 0) {
			t.Errorf("allowed behind %d good frames, but bad: %+v", n, got)
		}
	}
}

// streak tells for how many frames, up to the end, the last ones were all alike.
func streak(l []bool, bad bool) int {
	n := 0
	for n < len(l) && l[len(l)-1-n] == bad {
		n++
	}
	return n
}

// fromPast tells a zero health's end from the frames as they were, without going on from one health to the next.
func fromPast(bad []bool, back bool) api.Health {
	begin, isOut := 0, false // begin: the first frame behind the last coming back
	for i := range bad {
		past := bad[begin : i+1]
		if streak(past, true) >= api.Persist {
			isOut = true
		}
		if isOut && back && streak(past, false) >= api.Again {
			begin, isOut = i+1, false
		}
	}
	return api.Health{Bad: streak(bad[begin:], true), Out: isOut, Good: streak(bad[begin:], false)}
}

// P10.1, P10.2, P10.3: as the frames as they were tell it, for streaks of every length around the limits.
func TestRunAgainstPast(t *testing.T) {
	lengths := []int{1, 2, 3, 4, 5, 19, 20, 21, 41}
	for _, a := range lengths {
		for _, b := range lengths {
			for _, c := range lengths {
				for _, first := range []bool{false, true} {
					bad := slices.Concat(frames(a, first), frames(b, !first), frames(c, first), frames(a, !first), frames(b, first))
					for _, back := range []bool{false, true} {
						if got, want := Run(in(0, 0), bad, back), fromPast(bad, back); got != want {
							t.Fatalf("streaks of %d, %d, %d, %d, %d, the first bad: %t, back %t: %+v, not %+v", a, b, c, a, b, first, back, got, want)
						}
					}
				}
			}
		}
	}
}
