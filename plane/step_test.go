package plane

import (
	"math"
	"math/big"
	"testing"

	"flarepath/api"
)

// stepByWords is an aeroplane by a frame, by the chapter's words and numbers without ends.
func stepByWords(p api.Plane, c api.Command, g api.Gust) api.Plane {
	g = calmByWords(g)
	by := sum(c.Sink, g.Up)
	next := api.Plane{
		X:    difference(p.X, 360+g.Along),
		Y:    sum(p.Y, sum(c.Side, g.Side)),
		Turn: sum(p.Turn, sum(c.Turn, g.Turn)),
		Down: p.Down,
		Sank: p.Sank,
	}
	if p.Down {
		return next
	}
	if h := difference(p.H, by); h > 0 {
		next.H = h
	} else {
		next.Down, next.Sank = true, by
	}
	return next
}

// wantStep asks Step, which leaves what it was handed as it was.
func wantStep(t *testing.T, p api.Plane, c api.Command, g api.Gust, want api.Plane) {
	t.Helper()
	plane, command, air := p, c, g
	if got := Step(plane, command, air); got != want {
		t.Fatalf("Step(%v, %v, %v) = %v, not %v", p, c, g, got, want)
	}
	if plane != p || command != c || air != g {
		t.Fatalf("Step(%v, %v, %v) left %v, %v, %v", p, c, g, plane, command, air)
	}
}

// someAir are parts of the air about a bound, and beyond it.
func someAir(bound int64) []int64 {
	return append(beside(0, 1, bound, bound+8), math.MinInt64, math.MaxInt64)
}

// P28.1: along, it comes nearer by 360 and what the air does along, and nothing else moves.
func TestStepAlong(t *testing.T) {
	for _, c := range [][3]int64{
		{0, 0, -360}, {360, 0, 0}, {361, 0, 1}, {359, 0, -1}, {1000, 0, 640}, {-1000, 0, -1360},
		{1000, 1, 639}, {1000, -1, 641}, {1000, 19, 621}, {1000, 20, 620}, {1000, 21, 620}, {1000, -19, 659}, {1000, -20, 660}, {1000, -21, 660},
		{1000, math.MaxInt64, 620}, {1000, math.MinInt64, 660}, {math.MinInt64, 0, math.MinInt64}, {math.MinInt64, -99, math.MinInt64},
		{math.MinInt64 + 360, 0, math.MinInt64}, {math.MinInt64 + 361, 0, math.MinInt64 + 1}, {math.MinInt64 + 359, 0, math.MinInt64},
		{math.MinInt64 + 380, 20, math.MinInt64}, {math.MinInt64 + 381, 20, math.MinInt64 + 1}, {math.MinInt64 + 379, 20, math.MinInt64},
		{math.MinInt64 + 340, -20, math.MinInt64}, {math.MinInt64 + 341, -20, math.MinInt64 + 1},
		{math.MaxInt64, 0, math.MaxInt64 - 360}, {math.MaxInt64, -20, math.MaxInt64 - 340},
	} {
		wantStep(t, api.Plane{X: c[0], H: 9}, api.Command{}, api.Gust{Along: c[1]}, api.Plane{X: c[2], H: 9})
	}
	for _, x := range append(ends(), beside(0, 340, 360, 380, 1<<24, 1<<40)...) {
		for _, along := range someAir(20) {
			want := difference(x, 360+bounded(along, -20, 20))
			wantStep(t, api.Plane{X: x, H: 9}, api.Command{}, api.Gust{Along: along}, api.Plane{X: want, H: 9})
		}
	}
}

// P28.1: aside, it moves by the command and the air, and nothing else does but what always moves.
func TestStepAside(t *testing.T) {
	for _, c := range [][4]int64{
		{0, 0, 0, 0}, {5, -2, 0, 3}, {5, 20, 0, 25}, {-5, -20, 0, -25}, {5, 0, 2, 7}, {5, 0, 3, 7}, {5, 0, -2, 3}, {5, 0, -3, 3}, {5, 1, 1, 7}, {5, -1, 1, 5}, {5, 7, -9, 10},
		{math.MaxInt64, 1, 0, math.MaxInt64}, {math.MaxInt64, 0, 1, math.MaxInt64}, {math.MinInt64, -1, 0, math.MinInt64}, {math.MinInt64, 0, -1, math.MinInt64},
		{math.MaxInt64 - 3, 2, 1, math.MaxInt64}, {math.MaxInt64 - 4, 2, 1, math.MaxInt64 - 1},
		// The command and the air together come first: they stop at the end, or the aeroplane does not.
		{math.MaxInt64, 2, -2, math.MaxInt64}, {math.MinInt64, -2, 2, math.MinInt64}, {-10, math.MaxInt64, 2, math.MaxInt64 - 10}, {10, math.MinInt64, -2, math.MinInt64 + 10},
		{math.MaxInt64, 3, -2, math.MaxInt64}, {math.MaxInt64, 1, -2, math.MaxInt64 - 1}, {math.MinInt64, -1, 2, math.MinInt64 + 1},
	} {
		wantStep(t, api.Plane{Y: c[0], H: 9}, api.Command{Side: c[1]}, api.Gust{Side: c[2]}, api.Plane{X: -360, Y: c[3], H: 9})
	}
	for _, y := range append(ends(), beside(0, 100, 1<<24)...) {
		for _, side := range append(ends(), beside(0, 2, 20, 1<<40)...) {
			for _, air := range someAir(2) {
				want := sum(y, sum(side, bounded(air, -2, 2)))
				wantStep(t, api.Plane{Y: y, H: 9}, api.Command{Side: side}, api.Gust{Side: air}, api.Plane{X: -360, Y: want, H: 9})
			}
		}
	}
}

// P28.1: around, it turns by the command and the air, and nothing else moves but what always does.
func TestStepAround(t *testing.T) {
	for _, c := range [][4]int64{
		{0, 0, 0, 0}, {7, 3, -99, -40}, {7, 500, 0, 507}, {7, -500, 0, -493}, {7, 0, 50, 57}, {7, 0, 51, 57}, {7, 0, -50, -43}, {7, 0, -51, -43}, {7, 60, -60, 17},
		{math.MaxInt64, 1, 0, math.MaxInt64}, {math.MinInt64, -1, 0, math.MinInt64}, {math.MaxInt64 - 53, 3, 50, math.MaxInt64}, {math.MaxInt64 - 54, 3, 50, math.MaxInt64 - 1},
		{math.MaxInt64, 50, -50, math.MaxInt64}, {math.MinInt64, -50, 50, math.MinInt64}, {-10, math.MaxInt64, 50, math.MaxInt64 - 10}, {10, math.MinInt64, -50, math.MinInt64 + 10},
		{math.MaxInt64, 9, -50, math.MaxInt64 - 41}, {math.MinInt64, -9, 50, math.MinInt64 + 41},
	} {
		wantStep(t, api.Plane{Turn: c[0], H: 9}, api.Command{Turn: c[1]}, api.Gust{Turn: c[2]}, api.Plane{X: -360, Turn: c[3], H: 9})
	}
	for _, turn := range append(ends(), beside(0, 1000, 90000)...) {
		for _, command := range append(ends(), beside(0, 50, 500, 1<<40)...) {
			for _, air := range someAir(50) {
				want := sum(turn, sum(command, bounded(air, -50, 50)))
				wantStep(t, api.Plane{Turn: turn, H: 9}, api.Command{Turn: command}, api.Gust{Turn: air}, api.Plane{X: -360, Turn: want, H: 9})
			}
		}
	}
}

// P28.1: in the air the height is less by the command and the air; at 0 or below it is down, with what these came to.
func TestStepHeight(t *testing.T) {
	for _, c := range []struct {
		h, sink, up int64
		to          int64
		down        bool
		sank        int64
	}{
		{h: 30, sink: 18, to: 12}, {h: 30, sink: -20, to: 50}, {h: 30, sink: -20, up: -1, to: 51}, {h: 30, sink: -20, up: -9, to: 51}, {h: 30, sink: 0, up: 1, to: 29}, {h: 30, up: 5, to: 29},
		// From above: one above 0, at 0, below it.
		{h: 19, sink: 18, to: 1}, {h: 18, sink: 18, down: true, sank: 18}, {h: 17, sink: 18, down: true, sank: 18}, {h: 1, sink: 18, down: true, sank: 18},
		{h: 20, sink: 18, up: 1, to: 1}, {h: 19, sink: 18, up: 1, down: true, sank: 19}, {h: 18, sink: 18, up: 1, down: true, sank: 19}, {h: 10, sink: 18, up: 9, down: true, sank: 19},
		{h: 18, sink: 18, up: -1, to: 1}, {h: 17, sink: 18, up: -1, down: true, sank: 17}, {h: 17, sink: 18, up: -5, down: true, sank: 17},
		{h: 1, sink: 0, up: 1, down: true, sank: 1}, {h: 1, sink: 1, up: -1, to: 1}, {h: 2, sink: 1, up: 0, to: 1}, {h: 1, to: 1},
		// From a height that is 0 or below already.
		{h: 0, down: true, sank: 0}, {h: 0, sink: 3, down: true, sank: 3}, {h: 0, sink: -1, to: 1}, {h: 0, up: -1, to: 1}, {h: 0, sink: 1, up: -1, down: true, sank: 0}, {h: 0, sink: -1, up: 1, down: true, sank: 0},
		{h: -20, sink: -20, down: true, sank: -20}, {h: -20, sink: -20, up: -1, to: 1}, {h: -20, sink: -21, to: 1}, {h: -21, sink: -20, up: -1, down: true, sank: -21}, {h: -100, sink: 18, down: true, sank: 18}, {h: -100, sink: -18, up: 1, down: true, sank: -17},
		// At the ends.
		{h: math.MaxInt64, sink: -1, to: math.MaxInt64}, {h: math.MaxInt64, sink: math.MinInt64, to: math.MaxInt64}, {h: math.MaxInt64, sink: math.MaxInt64, down: true, sank: math.MaxInt64},
		{h: math.MaxInt64, sink: math.MaxInt64, up: -1, to: 1}, {h: math.MaxInt64, sink: math.MaxInt64 - 1, to: 1}, {h: math.MaxInt64, sink: math.MaxInt64 - 1, up: 1, down: true, sank: math.MaxInt64},
		{h: math.MaxInt64, sink: math.MaxInt64, up: 1, down: true, sank: math.MaxInt64}, {h: 5, sink: math.MaxInt64, up: 1, down: true, sank: math.MaxInt64},
		{h: math.MinInt64, down: true}, {h: math.MinInt64, sink: math.MaxInt64, up: 1, down: true, sank: math.MaxInt64}, {h: math.MinInt64, sink: math.MinInt64, down: true, sank: math.MinInt64}, {h: math.MinInt64, sink: math.MinInt64, up: -1, down: true, sank: math.MinInt64},
		{h: -1, sink: math.MinInt64, to: math.MaxInt64}, {h: -2, sink: math.MinInt64, to: math.MaxInt64 - 1}, {h: -2, sink: math.MinInt64, up: -1, to: math.MaxInt64 - 1}, {h: 0, sink: math.MinInt64, up: -1, to: math.MaxInt64}, {h: 0, sink: math.MinInt64, up: 1, to: math.MaxInt64},
		// The command and the air together come first: behind the end of the height, what is above it would be gone.
		{h: math.MaxInt64, sink: -1, up: 1, to: math.MaxInt64}, {h: math.MaxInt64 - 1, sink: -2, up: 1, to: math.MaxInt64},
	} {
		want := api.Plane{X: -360, H: c.to, Down: c.down, Sank: c.sank}
		wantStep(t, api.Plane{H: c.h}, api.Command{Sink: c.sink}, api.Gust{Up: c.up}, want)
	}
	for _, h := range append(ends(), beside(0, 1, 2, 17, 18, 19, 20, 21, 22, 9000)...) {
		for _, sink := range append(ends(), beside(0, 2, 17, 18, 20, 24, 1<<40)...) {
			for _, up := range someAir(1) {
				p, c, g := api.Plane{H: h}, api.Command{Sink: sink}, api.Gust{Up: up}
				wantStep(t, p, c, g, stepByWords(p, c, g))
			}
		}
	}
}

// P28.1: once down H is 0, whatever it was handed in as, and Sank stays, while along, aside and around go on.
func TestStepOnceDown(t *testing.T) {
	for _, h := range append(ends(), beside(0, 1, 50, 9000)...) {
		for _, sink := range append(ends(), beside(0, 1, 18, 20, 90)...) {
			for _, sank := range []int64{0, 4, -4, 19, math.MinInt64, math.MaxInt64} {
				for _, up := range []int64{0, 1, -1, math.MinInt64, math.MaxInt64} {
					p := api.Plane{X: 1000, Y: 5, H: h, Turn: 7, Down: true, Sank: sank}
					c := api.Command{Side: 3, Sink: sink, Turn: -9}
					g := api.Gust{Along: -4, Side: 1, Up: up, Turn: 20}
					wantStep(t, p, c, g, api.Plane{X: 644, Y: 9, H: 0, Turn: 18, Down: true, Sank: sank})
				}
			}
		}
	}
}

// P28.1: at the touchdown along, aside and around go on as always, and behind it.
func TestStepTouchdown(t *testing.T) {
	p := api.Plane{X: 1000, Y: 5, H: 21, Turn: 7}
	c := api.Command{Side: -2, Sink: 10, Turn: -3}
	g := api.Gust{Along: 5, Side: 1, Up: 1, Turn: -4}
	for _, want := range []api.Plane{
		{X: 635, Y: 4, H: 10, Turn: 0},
		{X: 270, Y: 3, H: 0, Turn: -7, Down: true, Sank: 11},
		{X: -95, Y: 2, H: 0, Turn: -14, Down: true, Sank: 11},
		{X: -460, Y: 1, H: 0, Turn: -21, Down: true, Sank: 11},
	} {
		wantStep(t, p, c, g, want)
		p = Step(p, c, g)
	}
	climb := api.Command{Sink: -20}
	for range 5 {
		p = Step(p, climb, api.Gust{Up: -1})
		if p.H != 0 || !p.Down || p.Sank != 11 {
			t.Fatalf("down, and climbing: %v", p)
		}
	}
}

// P28.1: what is wrong of the sources moves nothing.
func TestStepAsksForNoWrong(t *testing.T) {
	m := mixer(7)
	for range 5000 {
		p, c, g := anyPlane(&m), anyCommand(&m), anyGust(&m)
		want := Step(p, c, g)
		g.Wrong = anyGust(&m).Wrong
		wantStep(t, p, c, g, want)
	}
}

// P28.1: air beyond its bounds counts for what it is brought to.
func TestStepCalmsTheAir(t *testing.T) {
	m := mixer(8)
	for range 5000 {
		p, c, g := anyPlane(&m), anyCommand(&m), anyGust(&m)
		wantStep(t, p, c, g, Step(p, c, calmByWords(g)))
	}
}

// P28.1: a step, of anything.
func TestStepAnything(t *testing.T) {
	m := mixer(1)
	for range 40000 {
		p, c, g := anyPlane(&m), anyCommand(&m), anyGust(&m)
		wantStep(t, p, c, g, stepByWords(p, c, g))
	}
}

// notAbove tells whether an aeroplane is above another one, or 0, by 21 at most.
func notAbove(next, was api.Plane) bool {
	most := new(big.Int).Add(number(max(was.H, 0)), number(21))
	return number(next.H).Cmp(most) <= 0
}

// wantFollows holds P28.2 of one step: behind a Sink of -20 at least.
func wantFollows(t *testing.T, was, next api.Plane) {
	t.Helper()
	if !notAbove(next, was) {
		t.Fatalf("%v rose to %v", was, next)
	}
	if was.Down && (!next.Down || next.H != 0 || next.Sank != was.Sank) {
		t.Fatalf("down as %v, then %v", was, next)
	}
}

// risingCommand tells a command with a Sink of -20 at least: often just that.
func risingCommand(m *mixer) api.Command {
	c := anyCommand(m)
	switch m.below(4) {
	case 0:
		c.Sink = max(c.Sink, -20)
	case 1:
		c.Sink = -20
	default:
		c.Sink = m.between(-20, 24)
	}
	return c
}

// P28.2: over many runs, whatever the air does.
func TestRunsRiseByNoMore(t *testing.T) {
	m := mixer(282)
	for range 400 {
		p := anyPlane(&m)
		if m.once(2) {
			p.H = m.between(-50, 400)
		}
		for range 90 {
			next := Step(p, risingCommand(&m), anyGust(&m))
			wantFollows(t, p, next)
			p = next
		}
	}
}

// P28.2: the whole climb of 20 and 1 is there, frame by frame, from 0 and from below it.
func TestRunsThatClimb(t *testing.T) {
	for _, begin := range []int64{-20, -5, 0, 1, 100, 9000} {
		p := api.Plane{H: begin}
		for i := range int64(80) {
			next := Step(p, api.Command{Sink: -20}, api.Gust{Up: -1 - i})
			wantFollows(t, p, next)
			if want := p.H + 21; next.H != want || next.Down {
				t.Fatalf("climbed from %v to %v", p, next)
			}
			p = next
		}
	}
	top := api.Plane{H: math.MaxInt64 - 50}
	for range 70 {
		next := Step(top, api.Command{Sink: -20}, api.Gust{Up: -1})
		wantFollows(t, top, next)
		if next.H < top.H {
			t.Fatalf("climbed from %v to %v", top, next)
		}
		top = next
	}
	if top.H != math.MaxInt64 {
		t.Errorf("it stopped at %d", top.H)
	}
}

// P28.2: down it stays down: it sinks, touches down, and whatever comes, stands at 0 with what it sank.
func TestRunsThatTouchDown(t *testing.T) {
	m := mixer(4)
	for sink := int64(1); sink <= 24; sink++ {
		p := api.Plane{X: 5000, H: 200}
		frames := 0
		for !p.Down {
			next := Step(p, api.Command{Sink: sink}, api.Gust{})
			wantFollows(t, p, next)
			p = next
			frames++
		}
		if want := (200 + sink - 1) / sink; int64(frames) != want || p.Sank != sink || p.H != 0 {
			t.Fatalf("with %d it is down behind %d frames, as %v", sink, frames, p)
		}
		for range 70 {
			was := p
			c, g := anyCommand(&m), anyGust(&m)
			p = Step(p, c, g)
			wantFollows(t, was, p)
			if want := stepByWords(was, c, g); p != want {
				t.Fatalf("down as %v: %v, not %v", was, p, want)
			}
		}
	}
}
