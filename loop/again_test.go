package loop

import (
	"math"
	"slices"
	"sync"
	"testing"

	"flarepath/api"
)

// told is all that a flight tells of a frame.
type told struct {
	out    api.Output
	errno  api.Errno
	plane  api.Plane
	frames int
	lanes  [api.Lanes]api.Lane
}

// trip is a flight that can be flown again: where it begins, its faults, and what its frames are drawn by.
type trip struct {
	from   api.Plane
	faults []api.Fault
	seed   int
}

func trips() []trip {
	m := mixer(30)
	all := []trip{
		{from: api.Plane{H: 3000}},
		{from: onBeam(90, 7000, 800), seed: 1},
		{from: onBeam(-90, 6500, -800), faults: []api.Fault{{Kind: api.FaultLane, At: 40, Source: 1}, {Kind: api.FaultOff, At: 9, Signal: 2, Source: 0, By: math.MinInt64}}, seed: 2},
		{from: api.Plane{X: 1 << 24, Y: -1 << 24, H: 1 << 24, Turn: -1 << 24, Down: true, Sank: 9}, seed: 3},
	}
	for seed := 4; seed < 12; seed++ {
		all = append(all, trip{from: m.plane(), faults: m.faults(), seed: seed})
	}
	return all
}

// tell tells all of a flight.
func tell(f *Flight) told {
	x := told{plane: f.Plane(), frames: f.Frames()}
	for n := range x.lanes {
		x.lanes[n], _ = f.Lane(n)
	}
	return x
}

// fly tells a trip's frames. Between them another flight does some too, and all is asked of it, if that is wanted.
func (r trip) fly(between bool) []told {
	f, errno := New(r.from, r.faults)
	other, _ := New(onBeam(5, 6200, 0), r.faults)
	if errno != api.OK {
		return nil
	}
	m, o := mixer(r.seed), mixer(77)
	var all []told
	for range 90 {
		if between {
			other.Frame(o.gust(), o.crew(), o.units())
			tell(f)
			New(r.from, make([]api.Fault, 17))
		}
		out, errno := f.Frame(m.gust(), m.crew(), m.units())
		x := tell(f)
		x.out, x.errno = out, errno
		all = append(all, x)
	}
	return all
}

// P29.1, P29.2: the same answer whenever it is asked again, whatever was asked in between: forwards, backwards, with other flights in between, and by several at once.
func TestAskedAgain(t *testing.T) {
	all := trips()
	want := make([][]told, len(all))
	for n, r := range all {
		want[n] = r.fly(false)
		if len(want[n]) != 90 {
			t.Fatalf("%v: %d frames", r, len(want[n]))
		}
	}
	for n := len(all) - 1; n >= 0; n-- {
		if !slices.Equal(all[n].fly(n%2 == 0), want[n]) {
			t.Errorf("%v: not the same again", all[n])
		}
	}
	var wait sync.WaitGroup
	for k := range 8 {
		wait.Add(1)
		go func() {
			defer wait.Done()
			for n := range all {
				n = (n*5 + k) % len(all)
				if !slices.Equal(all[n].fly(k%2 == 0), want[n]) {
					t.Errorf("%v: not the same by several at once", all[n])
				}
			}
		}()
	}
	wait.Wait()
}

// P29.1, P29.2: asking where a flight is, how many frames it did and what its lanes are changes nothing.
func TestAskingChangesNothing(t *testing.T) {
	for _, r := range trips() {
		f, m := begin(t, r.from, r.faults...), like(r.from, r.faults...)
		x := mixer(r.seed)
		for range 20 {
			first := tell(f)
			for _, n := range noSources() {
				f.Lane(n)
			}
			if again := tell(f); again != first {
				t.Fatalf("%v behind %v", again, first)
			}
			wantFrame(t, f, m, x.gust(), x.crew(), x.units())
		}
	}
}

// P29.3, P28.2: down it stays down, 0 high, with what it sank, whatever the air and the crew do, and whatever goes wrong.
func TestDownItStaysDown(t *testing.T) {
	for seed := range 6 {
		m := mixer(seed)
		faults := m.faults()
		p := api.Plane{X: m.between(-9000, 9000), H: m.between(1, 9), Y: m.between(-50, 50)}
		f := begin(t, p, faults...)
		for n := 0; !f.Plane().Down; n++ {
			if n > 100 {
				t.Fatalf("%v does not come down", f.Plane())
			}
			f.Frame(api.Gust{Up: math.MaxInt64}, 0, 15)
		}
		down := f.Plane()
		if down.H != 0 || down.Sank != 1 {
			t.Fatalf("it touched down as %v", down)
		}
		model := like(p, faults...)
		model.plane, model.frames, model.trio = down, uint32(f.Frames()), f.lanes.Copy()
		for range 80 {
			g := m.gust()
			g.Up = -1 - int64(m.below(9))
			wantFrame(t, f, model, g, m.crew(), m.units())
			if now := f.Plane(); !now.Down || now.H != 0 || now.Sank != 1 {
				t.Fatalf("%v behind %v", now, down)
			}
		}
	}
}

// P29.1: an aeroplane that is handed in down is on its wheels from the first frame on, with what it sank; one that is 0 high and not down touches down in it.
func TestBegunDown(t *testing.T) {
	for _, c := range []struct{ from, behind api.Plane }{
		{api.Plane{Down: true, Sank: 7}, api.Plane{X: -360, Down: true, Sank: 7}},
		{api.Plane{H: 9000, Down: true, Sank: -7}, api.Plane{X: -360, Down: true, Sank: -7}},
		{api.Plane{H: -5, Down: true}, api.Plane{X: -360, Down: true}},
		{api.Plane{}, api.Plane{X: -360, Down: true}},
		{api.Plane{H: -5}, api.Plane{X: -360, Down: true}},
		{api.Plane{H: 1}, api.Plane{X: -360, H: 1}},
	} {
		f := begin(t, c.from)
		wantFrame(t, f, like(c.from), api.Gust{}, api.CrewArm, 15)
		if f.Plane() != c.behind {
			t.Errorf("%v is %v, not %v", c.from, f.Plane(), c.behind)
		}
	}
}

// P29.1: the wheels are down if the aeroplane was down ahead of the frame: Rollout comes in the frame behind the touchdown's, by the lanes in Align.
func TestWheels(t *testing.T) {
	f, m := begin(t, onBeam(0, 6500, 0)), like(onBeam(0, 6500, 0))
	for n := 0; !f.Plane().Down; n++ {
		out := wantFrame(t, f, m, api.Gust{}, api.CrewArm, 15)
		if n > 900 || (f.Plane().Down && out.Show[0].Mode != api.Align) {
			t.Fatalf("frame %d: %v, %v", n, out, f.Plane())
		}
	}
	out := wantFrame(t, f, m, api.Gust{}, 0, 15)
	if mode := out.Show[0].Mode; mode != api.Rollout {
		t.Errorf("behind the touchdown: %d", mode)
	}
	// On its wheels it is never armed, however high its sources say it is.
	p := api.Plane{H: 9000, Down: true}
	faults := []api.Fault{}
	for k := range 3 {
		faults = append(faults, api.Fault{Kind: api.FaultOff, Signal: api.Height, Source: k, By: 9000})
	}
	f, m = begin(t, p, faults...), like(p, faults...)
	for range 20 {
		if out := wantFrame(t, f, m, api.Gust{}, api.CrewArm, 15); out.Show[0].Mode != api.Off || out.Show[0].Level != api.Land3 && f.Frames() > 3 {
			t.Fatalf("on its wheels: %v", out)
		}
	}
}

// P29.1: the crew and the units come to the lanes as they are handed in, each frame's own.
func TestCrewAndUnits(t *testing.T) {
	for bits := range 256 {
		f, m := begin(t, onBeam(0, 9000, 0)), like(onBeam(0, 9000, 0))
		for n := range 9 {
			crew, units := uint8(0), uint8(bits)
			if n > 4 {
				crew, units = uint8(bits), 15
			}
			wantFrame(t, f, m, api.Gust{}, crew, units)
		}
	}
}
