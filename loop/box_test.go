package loop

import (
	"slices"
	"testing"

	"flarepath/api"
)

// air is a gust of each frame.
type air func(frame int) api.Gust

// turned is a gust the other way round.
func turned(g api.Gust) api.Gust {
	g.Along, g.Side, g.Up, g.Turn = -g.Along, -g.Side, -g.Up, -g.Turn
	for i := range g.Wrong {
		for k := range g.Wrong[i] {
			g.Wrong[i][k] = -g.Wrong[i][k]
		}
	}
	return g
}

// most is the gust that pushes as much as a calm one may, with all sources as wrong as they may be.
func most() api.Gust {
	g := api.Gust{Along: 20, Side: 2, Up: 1, Turn: 50}
	for i := range g.Wrong {
		for k := range g.Wrong[i] {
			g.Wrong[i][k] = 30
		}
	}
	g.Wrong[api.Drift] = [api.Sources]int64{500, 500, 500}
	return g
}

// mixed is a gust whose sources are wrong on both sides.
func mixed() api.Gust {
	g := most()
	for i := range g.Wrong {
		g.Wrong[i][i%3] *= -1
	}
	g.Along = -g.Along
	return g
}

// drawn is air by a draw.
func drawn(seed int) air {
	m := mixer(seed)
	return func(int) api.Gust {
		g := api.Gust{Along: m.between(-20, 20), Side: m.between(-2, 2), Up: m.between(-1, 1), Turn: m.between(-50, 50)}
		for i := range g.Wrong {
			bound := int64(30)
			if i == api.Drift {
				bound = 500
			}
			for k := range g.Wrong[i] {
				g.Wrong[i][k] = m.between(-bound, bound)
			}
		}
		return g
	}
}

// steady is air that is the same in each frame.
func steady(g api.Gust) air {
	return func(int) api.Gust { return g }
}

// turning is air that turns every so many frames.
func turning(g api.Gust, every int) air {
	return func(frame int) api.Gust {
		if frame/every%2 == 0 {
			return g
		}
		return turned(g)
	}
}

// calmAir tells each kind of air, by a number of any size.
func calmAir(n int) air {
	switch n % 9 {
	case 0:
		return steady(api.Gust{})
	case 1:
		return steady(most())
	case 2:
		return steady(turned(most()))
	case 3:
		return steady(mixed())
	case 4:
		return steady(turned(mixed()))
	case 5:
		return turning(most(), 1)
	case 6:
		return turning(mixed(), 7)
	case 7:
		return turning(most(), 60)
	}
	return drawn(n)
}

// landing is a flight of which P0.5 and P0.6 tell.
type landing struct {
	from   api.Plane
	air    air
	faults []api.Fault
	// arms is in how many frames the crew arms, from the first one on.
	arms int
	// within is the mode in which the fault begins; Off, if that is not asked.
	within uint8
}

// path is what was seen of a landing.
type path struct {
	modes  [api.Lanes][]uint8
	flared int
	down   int
	rolled int
}

// see adds what the lanes showed in a frame.
func (w *path) see(out api.Output, frame int) {
	for n, is := range out.Alive {
		if !is {
			continue
		}
		mode := out.Show[n].Mode
		if l := w.modes[n]; len(l) == 0 || l[len(l)-1] != mode {
			w.modes[n] = append(l, mode)
		}
		if mode == api.Rollout && w.rolled == 0 {
			w.rolled = frame
		}
	}
}

// fly flies a landing up to ten frames behind its touchdown, and asks what P0.5 and P0.6 say of it.
func (l landing) fly(t *testing.T) path {
	t.Helper()
	f := begin(t, l.from, l.faults...)
	var w path
	for n := 1; n <= 3000 && (w.down == 0 || n <= w.down+10); n++ {
		var crew uint8
		if n <= l.arms {
			crew = api.CrewArm
		}
		was := f.Plane()
		if was.H <= 1524 && w.flared == 0 {
			w.flared = n
		}
		g := l.air(n)
		out, errno := f.Frame(g, crew, 15)
		if errno != api.OK || !out.Is {
			t.Fatalf("%v: frame %d: %v, %d", l, n, out, errno)
		}
		w.see(out, n)
		l.wantWithin(t, out, n)
		now := f.Plane()
		if now.Down && w.down == 0 {
			w.down = n
			wantBox(t, l, now)
		}
		wantMoved(t, was, now, out.Cmd, g)
	}
	l.wantPath(t, w)
	return w
}

// wantBox asks how it touched down.
func wantBox(t *testing.T, l landing, p api.Plane) {
	t.Helper()
	if p.Y < -100 || p.Y > 100 || p.Sank > 4 || p.Sank < 2 || p.H != 0 {
		t.Fatalf("%v: touched down at %v", l, p)
	}
}

// wantMoved asks whether an aeroplane moved by the commands and a calm gust, and whether what is down stays down (P28.2).
func wantMoved(t *testing.T, was, now api.Plane, c api.Command, g api.Gust) {
	t.Helper()
	want := api.Plane{
		X:    was.X - 360 - g.Along,
		Y:    was.Y + c.Side + g.Side,
		H:    was.H - c.Sink - g.Up,
		Turn: was.Turn + c.Turn + g.Turn,
	}
	if was.Down {
		want.H, want.Down, want.Sank = 0, true, was.Sank
	} else if want.H <= 0 {
		want.H, want.Down, want.Sank = 0, true, c.Sink+g.Up
	}
	if now != want {
		t.Fatalf("%v by %v and %v is %v, not %v", was, c, g, now, want)
	}
}

// wantWithin asks whether the fault begins where it is to.
func (l landing) wantWithin(t *testing.T, out api.Output, frame int) {
	t.Helper()
	if l.within == api.Off || frame != int(l.faults[0].At) {
		return
	}
	for n, is := range out.Alive {
		if is && out.Show[n].Mode != l.within {
			t.Fatalf("%v: frame %d, not within the mode: %v", l, frame, out)
		}
	}
}

// wantPath asks whether each lane went through the modes in their order, up to where it died, and when.
func (l landing) wantPath(t *testing.T, w path) {
	t.Helper()
	order := []uint8{api.Off, api.Armed, api.Approach, api.Flare, api.Align, api.Rollout}
	for n, modes := range w.modes {
		if len(modes) > len(order) || !slices.Equal(modes, order[:len(modes)]) || (len(modes) < len(order) && !l.dies(n)) {
			t.Fatalf("%v: the lane %d went through %v", l, n, modes)
		}
	}
	if w.down == 0 || w.down > 3000 || w.down-w.flared > 900 || w.rolled <= w.down || w.rolled > w.down+3 {
		t.Fatalf("%v: in the flare's band %d, down %d, in Rollout %d", l, w.flared, w.down, w.rolled)
	}
}

// dies tells whether a lane does.
func (l landing) dies(lane int) bool {
	for _, fault := range l.faults {
		if fault.Kind == api.FaultLane && fault.Source == lane {
			return true
		}
	}
	return false
}

// onBeam is an aeroplane on the beam.
func onBeam(y, h, turn int64) api.Plane {
	return api.Plane{X: 20 * h, Y: y, H: h, Turn: turn}
}

// P29.3, P0.5, P0.6: flights without a fault, from all ends of where one begins, and between, in each kind of air.
func TestBox(t *testing.T) {
	for k, h := range []int64{9000, 9001, 12345, 20000} {
		for n, y := range []int64{-100, 0, 37, 100} {
			t.Run("", func(t *testing.T) {
				t.Parallel()
				for m, turn := range []int64{-1000, 0, 1000} {
					n := k*12 + n*3 + m
					p := onBeam(y, h, turn)
					p.X += int64(n % 20)
					landing{from: p, air: calmAir(n), arms: 5 + n%7}.fly(t)
				}
			})
		}
	}
}

// P29.3, P0.5, P0.6: in each kind of air from both ends; the crew may arm all the time.
func TestBoxInEachAir(t *testing.T) {
	for n := range 9 {
		t.Run("", func(t *testing.T) {
			t.Parallel()
			landing{from: onBeam(100, 9000, 1000), air: calmAir(n), arms: 8}.fly(t)
			landing{from: onBeam(-100, 9000, -1000), air: calmAir(n), arms: 3000}.fly(t)
		})
	}
}

// since are frames from which on something goes wrong with an aeroplane that begins 9000 high: from the first one on, within the approach, within the flare, and in its end or behind it.
var since = []struct {
	at     uint32
	within uint8
}{{0, api.Off}, {1, api.Off}, {150, api.Approach}, {480, api.Flare}, {560, api.Off}}

// flyAll flies a landing with one fault from each of these frames on, in one kind of air behind the other.
func flyAll(t *testing.T, n int, fault api.Fault) {
	t.Helper()
	for k, s := range since {
		fault.At = s.at
		p := onBeam(int64(n*41%201)-100, 9000, int64(n*97%2001)-1000)
		landing{from: p, air: calmAir(n*5 + k), arms: 8, faults: []api.Fault{fault}, within: s.within}.fly(t)
	}
}

// P29.3, P0.5, P0.6: with one source that is silent, or not well, or of even parity, each one of each signal.
func TestBoxWithoutASource(t *testing.T) {
	for place := range 12 {
		t.Run("", func(t *testing.T) {
			t.Parallel()
			for n, kind := range []uint8{api.FaultSilent, api.FaultStatus, api.FaultParity} {
				flyAll(t, place*3+n, api.Fault{Kind: kind, Signal: place / 3, Source: place % 3})
			}
		})
	}
}

// P29.3, P0.5, P0.6: with one source that says too much by more than 200, or too little.
func TestBoxWithASourceOff(t *testing.T) {
	far := []int64{700, -1 << 62, -5000, 1 << 62}
	for place := range 12 {
		t.Run("", func(t *testing.T) {
			t.Parallel()
			for n, by := range []int64{201, -201, far[place%4]} {
				flyAll(t, place*5+n+1, api.Fault{Kind: api.FaultOff, Signal: place / 3, Source: place % 3, By: by})
			}
		})
	}
}

// P29.3, P0.5, P0.6: with one lane that dies: the others go on.
func TestBoxWithoutALane(t *testing.T) {
	for lane := range 3 {
		t.Run("", func(t *testing.T) {
			t.Parallel()
			for n := range 4 {
				flyAll(t, lane*4+n+2, api.Fault{Kind: api.FaultLane, Source: lane})
			}
		})
	}
}
