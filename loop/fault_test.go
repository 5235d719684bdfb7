package loop

import (
	"math"
	"testing"

	"flarepath/api"
	"flarepath/dict"
	"flarepath/plane"
	"flarepath/port"
)

// bads tells for how many frames each source was bad, by what the lane 0 knows of it.
func bads(t *testing.T, f *Flight) [api.Signals][api.Sources]int {
	t.Helper()
	l, ok := f.Lane(0)
	if !ok {
		t.Fatal("there is no lane 0")
	}
	var all [api.Signals][api.Sources]int
	for i, sources := range l.Health {
		for k, h := range sources {
			all[i][k] = h.Bad
		}
	}
	return all
}

// wantBad asks whether a source was bad for so many frames, and no other one for any.
func wantBad(t *testing.T, f *Flight, signal, source, frames int) {
	t.Helper()
	var want [api.Signals][api.Sources]int
	want[signal][source] = frames
	if got := bads(t, f); got != want {
		t.Fatalf("frame %d: bad for %v frames, not %v", f.Frames(), got, want)
	}
}

// P29.1: each kind of fault of each source is there from its frame on, the frames 0 and 1 being the first one, and not ahead of it; it goes no other source on.
func TestFaultsBegin(t *testing.T) {
	p := api.Plane{X: 180000, H: 9000}
	for _, kind := range []uint8{api.FaultSilent, api.FaultStatus, api.FaultParity, api.FaultOff} {
		for place := range 12 {
			signal, source := place/3, place%3
			for _, at := range []uint32{0, 1, 2, 3, 7, 1 << 20, 1 << 31, math.MaxUint32} {
				fault := api.Fault{Kind: kind, At: at, Signal: signal, Source: source, By: 5000 - 10000*int64(place%2)}
				if signal == api.Height {
					fault.By = 5000
				}
				f, m := begin(t, p, fault), like(p, fault)
				for n := 1; n <= 9; n++ {
					wantFrame(t, f, m, api.Gust{}, 0, 15)
					wantBad(t, f, signal, source, max(0, n+1-int(max(1, at))))
				}
			}
		}
	}
}

// P29.1: FaultNone does nothing, whatever it has, nor does one whose frame did not come.
func TestFaultNone(t *testing.T) {
	p := api.Plane{X: 180000, Y: 70, H: 9000}
	faults := []api.Fault{{}, {Signal: -1, Source: -1}, {At: 1, Signal: 2, Source: 1, By: 900}, {Kind: api.FaultSilent, At: 400}, {Kind: api.FaultLane, At: math.MaxUint32}}
	f, m := begin(t, p, faults...), like(p)
	for range 60 {
		out := wantFrame(t, f, m, api.Gust{Side: -1}, api.CrewArm, 15)
		if out.Alive != [3]bool{true, true, true} || bads(t, f) != [4][3]int{} {
			t.Fatalf("frame %d: %v, %v", f.Frames(), out, bads(t, f))
		}
	}
}

// P29.1: FaultLane of each lane, of two, of all three: these are dead from their frame on, and show nothing; the signal says nothing about it.
func TestFaultLane(t *testing.T) {
	p := api.Plane{X: 180000, H: 9000}
	for bits := range 8 {
		for _, at := range []uint32{0, 1, 2, 6, 9} {
			var faults []api.Fault
			for k := range 3 {
				if bits>>k&1 != 0 {
					faults = append(faults, api.Fault{Kind: api.FaultLane, At: at + uint32(k), Signal: 7 - k, Source: k})
				}
			}
			f, m := begin(t, p, faults...), like(p, faults...)
			for n := 1; n <= 30; n++ {
				out := wantFrame(t, f, m, api.Gust{}, api.CrewArm, 15)
				is := false
				for k := range 3 {
					alive := bits>>k&1 == 0 || n < int(at)+k
					is = is || alive
					if out.Alive[k] != alive || (!alive && out.Show[k] != api.Show{}) {
						t.Fatalf("lanes %b dead from %d on: frame %d: %v", bits, at, n, out)
					}
				}
				if out.Is != is {
					t.Fatalf("lanes %b dead from %d on: frame %d: %v", bits, at, n, out)
				}
			}
		}
	}
}

// P29.1: where no lane is alive there are no commands, and the aeroplane steps by none at all: it moves by the air alone, though it sank by 18 till then.
func TestNoLaneSteers(t *testing.T) {
	p := api.Plane{X: 180000, Y: 60, H: 9000, Turn: 40}
	var faults []api.Fault
	for k := range 3 {
		faults = append(faults, api.Fault{Kind: api.FaultLane, At: 21, Source: k})
	}
	f, m := begin(t, p, faults...), like(p, faults...)
	for range 20 {
		out := wantFrame(t, f, m, api.Gust{}, api.CrewArm, 15)
		if f.Frames() == 20 && (out.Cmd.Sink < 15 || out.Show[0].Mode != api.Approach) {
			t.Fatalf("frame 20: %v", out)
		}
	}
	for range 200 {
		was := f.Plane()
		g := api.Gust{Along: -5, Side: 1, Up: 1, Turn: -9}
		if out := wantFrame(t, f, m, g, api.CrewToga, 15); out != (api.Output{}) {
			t.Fatalf("frame %d: %v", f.Frames(), out)
		}
		want := api.Plane{X: was.X - 355, Y: was.Y + 1, H: was.H - 1, Turn: was.Turn - 9}
		if f.Plane() != want {
			t.Fatalf("frame %d: %v, not %v", f.Frames(), f.Plane(), want)
		}
	}
}

// apart is by how much two sources of each signal may differ.
var apart = [api.Signals]int64{100, 100, 100, 2000}

// whose is an aeroplane of which a signal's sources say value.
func whose(signal int, value int64) api.Plane {
	switch signal {
	case api.Loc:
		return api.Plane{Y: value, H: 9000}
	case api.Glide:
		return api.Plane{X: 20 * (9000 - value), H: 9000}
	case api.Height:
		return api.Plane{H: value}
	}
	return api.Plane{H: 9000, Turn: value}
}

// wantOff asks whether a source that says by more than it would is bad in the first frame.
func wantOff(t *testing.T, p api.Plane, g api.Gust, signal, source int, by int64, bad bool) {
	t.Helper()
	fault := api.Fault{Kind: api.FaultOff, Signal: signal, Source: source, By: by}
	f := begin(t, p, fault)
	wantFrame(t, f, like(p, fault), g, 0, 15)
	want := 0
	if bad {
		want = 1
	}
	wantBad(t, f, signal, source, want)
}

// P29.1: FaultOff is seen where the source says too much, or too little, by more than two may differ, and not up to there.
func TestFaultOff(t *testing.T) {
	for place := range 12 {
		i, k := place/3, place%3
		for _, value := range []int64{0, 400, 8000, -7} {
			for _, sign := range []int64{1, -1} {
				if i == api.Height && sign*(apart[i]+1)+value < -1000 {
					continue
				}
				wantOff(t, whose(i, value), api.Gust{}, i, k, sign*apart[i], false)
				wantOff(t, whose(i, value), api.Gust{}, i, k, sign*(apart[i]+1), true)
				wantOff(t, whose(i, value), api.Gust{}, i, k, sign, false)
			}
			wantOff(t, whose(i, value), api.Gust{}, i, k, 0, false)
		}
	}
}

// bys are some by which what a word holds is left, on the side of more: about 2^40, and at the end of int64.
var bys = []int64{300001, 1 << 31, 1<<32 + 1, 1<<40 - 1, 1 << 40, 1<<40 + 1, 1 << 41, 1 << 62, math.MaxInt64 - 300001, math.MaxInt64 - 90000, math.MaxInt64 - 1, math.MaxInt64}

// P29.1: what FaultOff would say beyond what a word holds is said at its end: just so far from the others that it is bad, or just not.
func TestFaultOffAtTheEnds(t *testing.T) {
	for place := range 12 {
		i, k := place/3, place%3
		ends := [2]int64{mostSaid[i], leastSaid[i]}
		for n, sign := range []int64{1, -1} {
			far := whose(i, ends[n]-sign*(apart[i]+1))
			near := whose(i, ends[n]-sign*apart[i])
			for _, by := range bys {
				wantOff(t, far, api.Gust{}, i, k, sign*by, true)
				wantOff(t, near, api.Gust{}, i, k, sign*by, false)
				// On the other side it is as far as may be.
				wantOff(t, far, api.Gust{}, i, k, -sign*by, true)
			}
			wantOff(t, far, api.Gust{}, i, k, sign*(apart[i]+1), true)
			wantOff(t, far, api.Gust{}, i, k, sign*(apart[i]+2), true)
			wantOff(t, far, api.Gust{}, i, k, sign*apart[i], false)
			wantOff(t, near, api.Gust{}, i, k, sign*(apart[i]+1), false)
		}
		wantOff(t, whose(i, 0), api.Gust{}, i, k, math.MinInt64, true)
		wantOff(t, whose(i, 0), api.Gust{}, i, k, math.MinInt64+1, true)
	}
}

// P29.1: FaultOff goes by what the source says, which what a word holds bounds already, not by where the aeroplane is.
func TestFaultOffOfWhatIsSaid(t *testing.T) {
	for place := range 12 {
		i, k := place/3, place%3
		most, least := whose(i, mostSaid[i]+7000), whose(i, leastSaid[i]-7000)
		wantOff(t, most, api.Gust{}, i, k, -apart[i], false)
		wantOff(t, most, api.Gust{}, i, k, -apart[i]-1, true)
		wantOff(t, most, api.Gust{}, i, k, 9, false)
		wantOff(t, least, api.Gust{}, i, k, apart[i], false)
		wantOff(t, least, api.Gust{}, i, k, apart[i]+1, true)
		wantOff(t, least, api.Gust{}, i, k, -9, false)
	}
}

// P29.1: and by what is wrong of it in this frame's gust, brought within its bounds.
func TestFaultOffWithWrong(t *testing.T) {
	wrong := [api.Signals]int64{30, 30, 30, 500}
	for place := range 12 {
		i, k := place/3, place%3
		for _, sign := range []int64{1, -1} {
			var g api.Gust
			g.Wrong[i][k] = sign * wrong[i]
			wantOff(t, whose(i, 500), g, i, k, sign*(apart[i]-wrong[i]), false)
			wantOff(t, whose(i, 500), g, i, k, sign*(apart[i]-wrong[i]+1), true)
			wantOff(t, whose(i, 500), g, i, k, -sign*(apart[i]+wrong[i]), false)
			wantOff(t, whose(i, 500), g, i, k, -sign*(apart[i]+wrong[i]+1), true)
			g.Wrong[i][k] = sign * 9999
			wantOff(t, whose(i, 500), g, i, k, sign*(apart[i]-wrong[i]), false)
			wantOff(t, whose(i, 500), g, i, k, sign*(apart[i]-wrong[i]+1), true)
		}
	}
}

// P29.1: the word of FaultOff, from one end of what a word holds to the other one, and beyond both.
func TestFaultOffWords(t *testing.T) {
	all := append([]int64{0, 1, 99, 100, 131071, 131072, 131073, 180000, 199998, 199999, 200000, 200001, 200999, 201000, 201001, 262144, 262145, 300000}, bys...)
	for place := range 12 {
		i, k := place/3, place%3
		for _, value := range []int64{leastSaid[i], leastSaid[i] + 1, 0, 555, mostSaid[i] - 1, mostSaid[i]} {
			p := whose(i, value)
			for _, by := range all {
				for _, by := range []int64{by, -by} {
					want := wordsOf(t, p)
					want[i][k] = word(i, k, offByWords(i, value, by))
					if got := wordsOf(t, p, api.Fault{Kind: api.FaultOff, Signal: i, Source: k, By: by}); got != want {
						t.Fatalf("%v, by %d: %x, not %x", p, by, got, want)
					}
				}
			}
		}
	}
}

// P29.1: two sources that are off, one of them beyond all ends, are as far apart as the ends tell.
func TestTwoOff(t *testing.T) {
	p := api.Plane{Y: -90000, H: 9000}
	for _, c := range []struct {
		by  int64
		bad int
	}{{189900, 0}, {189899, 1}, {190000, 0}, {190001, 0}, {189950, 0}, {131072, 1}, {1 << 40, 0}, {math.MaxInt64, 0}, {math.MinInt64, 1}} {
		f := begin(t, p, api.Fault{Kind: api.FaultOff, By: c.by}, api.Fault{Kind: api.FaultOff, Source: 1, By: 1<<40 + 1})
		f.Frame(api.Gust{}, 0, 15)
		if got := bads(t, f)[api.Loc][1]; got != c.bad {
			t.Errorf("off by %d and 2^40: %d, not %d", c.by, got, c.bad)
		}
	}
}

// P29.1: the words are those of where the aeroplane was ahead of the frame: what the air does in it is seen in the next one.
func TestWordsComeFirst(t *testing.T) {
	for place := range 12 {
		i, k := place/3, place%3
		// One source stays at the end of what a word holds, while the others go away from it; the Glide rises by itself, as the beam sinks.
		by, value := int64(math.MaxInt64), mostSaid[i]-apart[i]
		if i == api.Glide {
			by, value = math.MinInt64, leastSaid[i]+apart[i]
		}
		fault := api.Fault{Kind: api.FaultOff, Signal: i, Source: k, By: by}
		p := whose(i, value)
		f, m := begin(t, p, fault), like(p, fault)
		for bad := range 3 {
			wantFrame(t, f, m, api.Gust{Side: -1, Up: 1, Turn: -1}, 0, 15)
			wantBad(t, f, i, k, bad)
		}
	}
}

// P29.1: how wrong a source is in a frame's gust is seen in that frame.
func TestWrongIsSeen(t *testing.T) {
	p := api.Plane{X: 180000, H: 9000}
	for place := range 12 {
		i, k := place/3, place%3
		// One of the two others is out by then: a source that differs from the last one leaves the signal without a value.
		faults := []api.Fault{{Kind: api.FaultOff, Signal: i, Source: k, By: apart[i] - 1}, {Kind: api.FaultSilent, Signal: i, Source: (k + 1) % 3}}
		f, m := begin(t, p, faults...), like(p, faults...)
		var g api.Gust
		for n, wrong := range []int64{0, 1, 2, 0, 2} {
			g.Wrong[i][k] = wrong
			was := bads(t, f)
			wantFrame(t, f, m, g, 0, 15)
			now := bads(t, f)
			if isBad := now[i][k] > was[i][k]; isBad != (wrong == 2) {
				t.Fatalf("frame %d, wrong by %d: %v behind %v", n+1, wrong, now, was)
			}
		}
	}
}

// wordsOf tells the words of a flight's first frame.
func wordsOf(t *testing.T, p api.Plane, faults ...api.Fault) [api.Signals][api.Sources]uint32 {
	t.Helper()
	f := begin(t, p, faults...)
	x, err := f.input(plane.Says(p, api.Gust{}))
	if err != nil {
		t.Fatalf("%v: %v", faults, err)
	}
	return x.Words
}

// P29.1: several faults of one source, one behind the other, told by hand.
func TestFaultsInOrder(t *testing.T) {
	silent, status, parity := api.Fault{Kind: api.FaultSilent}, api.Fault{Kind: api.FaultStatus}, api.Fault{Kind: api.FaultParity}
	off, more := api.Fault{Kind: api.FaultOff, By: 60}, api.Fault{Kind: api.FaultOff, By: -90}
	type list = []api.Fault
	for place := range 12 {
		i, k := place/3, place%3
		p := whose(i, 700)
		said := word(i, k, 700)
		other, third := word(i, k, 760), word(i, k, 610)
		const top = 1 << 31
		for _, c := range []struct {
			faults list
			want   uint32
		}{
			{nil, said}, {list{{}}, said}, {list{silent}, 0}, {list{status}, port.Failed(said)}, {list{parity}, said ^ top}, {list{off}, other}, {list{more}, third},
			{list{silent, silent}, 0}, {list{silent, status}, 0}, {list{status, silent}, 0}, {list{silent, parity}, top}, {list{parity, silent}, 0},
			{list{status, status}, port.Failed(said)}, {list{parity, parity}, said}, {list{parity, parity, parity}, said ^ top},
			{list{status, parity}, port.Failed(said) ^ top}, {list{parity, status}, said ^ top}, {list{parity, status, parity}, said},
			{list{silent, parity, parity}, 0}, {list{silent, parity, status}, port.Failed(top)},
			{list{silent, off}, other}, {list{status, off}, other}, {list{parity, off}, other}, {list{silent, parity, off}, other},
			{list{off, silent}, 0}, {list{off, status}, port.Failed(other)}, {list{off, parity}, other ^ top}, {list{off, parity, parity}, other},
			{list{off, more}, third}, {list{more, off}, other}, {list{off, off}, other}, {list{off, {}, more, {}}, third},
			{list{off, silent, more}, third}, {list{parity, off, parity}, other ^ top}, {list{status, off, status}, port.Failed(other)},
		} {
			for n := range c.faults {
				if c.faults[n].Kind != api.FaultNone {
					c.faults[n].Signal, c.faults[n].Source = i, k
				}
			}
			got, want := wordsOf(t, p, c.faults...), wordsOf(t, p)
			want[i][k] = c.want
			if got != want {
				t.Errorf("%v: %x, not %x", c.faults, got, want)
			}
		}
	}
}

// P29.1: what stands later in the list comes later, whenever it began.
func TestOrderIsTheLists(t *testing.T) {
	p := api.Plane{X: 180000, H: 9000}
	for _, c := range []struct {
		faults []api.Fault
		bads   []int
	}{
		{[]api.Fault{{Kind: api.FaultSilent, At: 2}, {Kind: api.FaultOff, At: 4}}, []int{0, 1, 2, 0, 0}},
		{[]api.Fault{{Kind: api.FaultSilent, At: 4}, {Kind: api.FaultOff, At: 2}}, []int{0, 0, 0, 0, 0}},
		{[]api.Fault{{Kind: api.FaultOff, At: 2}, {Kind: api.FaultSilent, At: 4}}, []int{0, 0, 0, 1, 2}},
		{[]api.Fault{{Kind: api.FaultOff, At: 4}, {Kind: api.FaultSilent, At: 2}}, []int{0, 1, 2, 3, 4}},
		{[]api.Fault{{Kind: api.FaultParity, At: 3}, {Kind: api.FaultParity, At: 5}}, []int{0, 0, 1, 2, 0}},
		{[]api.Fault{{Kind: api.FaultParity, At: 5}, {Kind: api.FaultParity, At: 3}}, []int{0, 0, 1, 2, 0}},
		{[]api.Fault{{Kind: api.FaultOff, At: 4, By: 50}, {Kind: api.FaultOff, At: 2, By: 900}}, []int{0, 1, 2, 3, 4}},
		{[]api.Fault{{Kind: api.FaultOff, At: 2, By: 900}, {Kind: api.FaultOff, At: 4, By: 50}}, []int{0, 1, 2, 0, 0}},
	} {
		f, m := begin(t, p, c.faults...), like(p, c.faults...)
		for n, bad := range c.bads {
			wantFrame(t, f, m, api.Gust{}, 0, 15)
			if got := bads(t, f)[0][0]; got != bad {
				t.Errorf("%v, frame %d: bad for %d, not %d", c.faults, n+1, got, bad)
			}
		}
	}
}

// P29.1: faults of two sources, and of a source and a lane, each do what they do alone.
func TestFaultsOfTwo(t *testing.T) {
	p := api.Plane{X: 180000, Y: 40, H: 9000}
	kinds := []uint8{api.FaultSilent, api.FaultStatus, api.FaultParity, api.FaultOff}
	for place := range 12 {
		for other := range 12 {
			one := api.Fault{Kind: kinds[place%4], Signal: place / 3, Source: place % 3, By: 777}
			two := api.Fault{Kind: kinds[(other+place/3)%4], Signal: other / 3, Source: other % 3, By: -777}
			if place == other {
				continue
			}
			got := wordsOf(t, p, one, two)
			want := wordsOf(t, p)
			want[one.Signal][one.Source] = wordsOf(t, p, one)[one.Signal][one.Source]
			want[two.Signal][two.Source] = wordsOf(t, p, two)[two.Signal][two.Source]
			if got != want || got != wordsOf(t, p, two, one) {
				t.Fatalf("%v, %v: %x, not %x", one, two, got, want)
			}
		}
		lane := api.Fault{Kind: api.FaultLane, At: 3, Source: place % 3}
		source := api.Fault{Kind: kinds[place/3], At: 2, Signal: place % 4, Source: (place + 1) % 3, By: 9000}
		f, m := begin(t, p, lane, source), like(p, source, lane)
		for n := 1; n <= 6; n++ {
			out := wantFrame(t, f, m, api.Gust{}, api.CrewArm, 15)
			if out.Alive[place%3] != (n < 3) {
				t.Fatalf("frame %d: %v", n, out)
			}
			l, _ := f.Lane((place + 1) % 3)
			if bad := l.Health[place%4][(place+1)%3].Bad; bad != max(0, n-1) {
				t.Fatalf("%v, frame %d: %d", source, n, bad)
			}
		}
	}
}

// P29.1: any faults, of any flight, in any air: each frame is what plane, port and trio come to.
func TestFrames(t *testing.T) {
	m := mixer(29)
	for range 150 {
		p := m.plane()
		faults := m.faults()
		f, want := begin(t, p, faults...), like(p, faults...)
		for range 25 + m.below(25) {
			wantFrame(t, f, want, m.gust(), m.crew(), m.units())
		}
	}
}

// plane is anywhere, mostly near the beam.
func (m *mixer) plane() api.Plane {
	h := m.between(-2000, 22000)
	p := api.Plane{X: 20 * h, Y: m.between(-400, 400), H: h, Turn: m.between(-3000, 3000)}
	switch m.below(6) {
	case 0:
		p.X = m.between(-1<<24, 1<<24)
	case 1:
		p.Y = m.between(-1<<24, 1<<24)
	case 2:
		p.H = m.between(-1<<24, 1<<24)
	case 3:
		p.Turn = m.between(-1<<24, 1<<24)
	}
	if m.once(8) {
		p.Down, p.Sank = true, m.number()
	}
	return p
}

// faults are up to 16 of any kind.
func (m *mixer) faults() []api.Fault {
	var all []api.Fault
	for range m.below(17) >> m.below(4) {
		fault := api.Fault{Kind: uint8(m.below(6)), At: uint32(m.below(40)), Signal: m.below(4), Source: m.below(3), By: m.number()}
		if m.once(3) {
			fault.By = m.between(-400, 400)
		}
		all = append(all, fault)
	}
	return all
}

// gust is any, calm or not.
func (m *mixer) gust() api.Gust {
	g := api.Gust{Along: m.between(-25, 25), Side: m.between(-3, 3), Up: m.between(-2, 2), Turn: m.between(-60, 60)}
	if m.once(3) {
		g.Along, g.Side, g.Up, g.Turn = m.number(), m.number(), m.number(), m.number()
	}
	for i := range g.Wrong {
		for k := range g.Wrong[i] {
			g.Wrong[i][k] = m.between(-40, 40)
			if m.once(5) {
				g.Wrong[i][k] = m.number()
			}
		}
	}
	return g
}

// crew does mostly nothing, or arms.
func (m *mixer) crew() uint8 {
	switch m.below(8) {
	case 0:
		return uint8(m.number())
	case 1:
		return 1 << m.below(4)
	case 2, 3:
		return api.CrewArm
	}
	return 0
}

// units are mostly all well.
func (m *mixer) units() uint8 {
	if m.once(9) {
		return uint8(m.number())
	}
	return uint8(15 + 16*m.below(16))
}

// P29.1: what the tests above take for the ends of words, and for how far two sources may differ, is what dict tells.
func TestEnds(t *testing.T) {
	for i := range 4 {
		want := api.Kind{Signal: i, Low: leastSaid[i], High: mostSaid[i], Apart: apart[i]}
		if kind, ok := dict.Of(i); !ok || kind != want {
			t.Errorf("Of(%d) = %v, %t", i, kind, ok)
		}
	}
}
