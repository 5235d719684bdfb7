package loop

import (
	"math"
	"slices"
	"testing"

	"flarepath/api"
	"flarepath/plane"
	"flarepath/port"
	"flarepath/trio"
)

// mixer tells numbers by a rule that mixes them: the same ones each time.
type mixer uint64

// number is of any size, and of either sign.
func (m *mixer) number() int64 {
	*m = *m*6364136223846793005 + 1442695040888963407
	return int64(*m) >> (*m >> 58)
}

func (m *mixer) below(n int) int {
	*m = *m*6364136223846793005 + 1442695040888963407
	return int(uint64(*m) >> 33 % uint64(n))
}

// once is yes once of n times.
func (m *mixer) once(n int) bool { return m.below(n) == 0 }

// between is low to high.
func (m *mixer) between(low, high int64) int64 {
	return low + int64(m.below(int(high-low+1)))
}

// noNumbers are numbers that neither a signal, nor a source, nor a lane has.
var noNumbers = []int{
	-1, 4, -2, -3, -4, 5, 6, 7, 8, 127, 128, 255, 256, 257, -255, -256, 1 << 16, 1<<16 + 1, -1 << 16, 1 << 31, 1 << 32, 1<<32 + 1, 1<<32 + 2, -1 << 31, -1 << 32,
	math.MinInt, math.MinInt + 1, math.MaxInt - 1, math.MaxInt,
}

// noSources are numbers that neither a source nor a lane has.
func noSources() []int { return append([]int{3}, noNumbers...) }

// word is the one by which a source of a signal says value.
func word(signal, source int, value int64) uint32 {
	w, errno := port.Put(signal, source, value)
	if errno != api.OK {
		panic(errno)
	}
	return w
}

// begin tells a flight that may be.
func begin(t *testing.T, p api.Plane, faults ...api.Fault) *Flight {
	t.Helper()
	f, errno := New(p, faults)
	if f == nil || errno != api.OK {
		t.Fatalf("New(%v, %v) = %p, %d", p, faults, f, errno)
	}
	return f
}

// model is a flight told by the chapter's words, from what plane, port and trio answer.
type model struct {
	plane  api.Plane
	trio   *trio.Trio
	faults []api.Fault
	frames uint32
}

// like is a flight's model, from its first frame on.
func like(p api.Plane, faults ...api.Fault) *model {
	return &model{plane: p, trio: trio.New(), faults: slices.Clone(faults)}
}

// leastSaid and mostSaid are what a word of each signal holds.
var (
	leastSaid = [api.Signals]int64{-100000, -100000, -1000, -90000}
	mostSaid  = [api.Signals]int64{100000, 100000, 200000, 90000}
)

// offByWords is what a source says that says by more than value.
func offByWords(signal int, value, by int64) int64 {
	if by > 1<<40 {
		by = 1 << 40
	}
	if by < -1<<40 {
		by = -1 << 40
	}
	value += by
	if value > mostSaid[signal] {
		return mostSaid[signal]
	}
	if value < leastSaid[signal] {
		return leastSaid[signal]
	}
	return value
}

// input is the frame that the lanes are told next.
func (m *model) input(g api.Gust, crew, units uint8) api.Input {
	says := plane.Says(m.plane, g)
	x := api.Input{Crew: crew, Units: units, Wheel: m.plane.Down}
	for i := range says {
		for k, value := range says[i] {
			x.Words[i][k] = word(i, k, value)
		}
	}
	for _, fault := range m.faults {
		if fault.At > m.frames+1 || fault.Kind == api.FaultNone {
			continue
		}
		if fault.Kind == api.FaultLane {
			x.Dead[fault.Source] = true
			continue
		}
		w := &x.Words[fault.Signal][fault.Source]
		switch fault.Kind {
		case api.FaultSilent:
			*w = 0
		case api.FaultStatus:
			*w = port.Failed(*w)
		case api.FaultParity:
			*w = port.Broken(*w)
		case api.FaultOff:
			*w = word(fault.Signal, fault.Source, offByWords(fault.Signal, says[fault.Signal][fault.Source], fault.By))
		}
	}
	return x
}

// frame takes the model a frame on.
func (m *model) frame(g api.Gust, crew, units uint8) api.Output {
	out, _ := m.trio.Frame(m.input(g, crew, units))
	c := out.Cmd
	if !out.Is {
		c = api.Command{}
	}
	m.plane = plane.Step(m.plane, c, g)
	m.frames++
	return out
}

// wantLike asks whether a flight is where its model is.
func wantLike(t *testing.T, f *Flight, m *model) {
	t.Helper()
	if p := f.Plane(); p != m.plane {
		t.Fatalf("frame %d: Plane() = %v, not %v", m.frames, p, m.plane)
	}
	if n := f.Frames(); n != int(m.frames) {
		t.Fatalf("Frames() = %d, not %d", n, m.frames)
	}
	for n := -1; n <= api.Lanes; n++ {
		want, is := m.trio.Lane(n)
		if l, ok := f.Lane(n); l != want || ok != is {
			t.Fatalf("frame %d: Lane(%d) =\n%v, %t, not\n%v, %t", m.frames, n, l, ok, want, is)
		}
	}
}

// wantFrame takes a flight and its model a frame on, and asks whether both come to the same.
func wantFrame(t *testing.T, f *Flight, m *model, g api.Gust, crew, units uint8) api.Output {
	t.Helper()
	ahead, air := *m, g
	want := m.frame(g, crew, units)
	out, errno := f.Frame(g, crew, units)
	if out != want || errno != api.OK {
		t.Fatalf("of %v: Frame(%v, %d, %d) =\n%v, %d, not\n%v", ahead, g, crew, units, out, errno, want)
	}
	if g != air {
		t.Fatalf("Frame left %v of %v", g, air)
	}
	wantLike(t, f, m)
	return out
}

// The chapter's examples.
func TestExamples(t *testing.T) {
	if f, errno := New(api.Plane{}, make([]api.Fault, 17)); f != nil || errno != api.ErrLimit {
		t.Errorf("New(zero, 17 faults) = %p, %d", f, errno)
	}
	if f, errno := New(api.Plane{}, []api.Fault{{Kind: 9}}); f != nil || errno != api.ErrArg {
		t.Errorf("New(zero, kind 9) = %p, %d", f, errno)
	}
	f := begin(t, api.Plane{H: 3000})
	if out, errno := f.Frame(api.Gust{}, 0, 15); !out.Is || errno != api.OK {
		t.Errorf("Frame(calm, 0, 15) = %v, %d", out, errno)
	}
	if f.Frames() != 1 || f.Plane().X != -360 {
		t.Errorf("behind it: %d, %v", f.Frames(), f.Plane())
	}
}

// P29.1: the numbers of api by which the tests below count.
func TestNumbers(t *testing.T) {
	if api.FaultNone != 0 || api.FaultSilent != 1 || api.FaultStatus != 2 || api.FaultParity != 3 || api.FaultOff != 4 || api.FaultLane != 5 {
		t.Error("the kinds of faults have other numbers")
	}
	if api.Loc != 0 || api.Glide != 1 || api.Height != 2 || api.Drift != 3 || api.Signals != 4 || api.Sources != 3 || api.Lanes != 3 || api.MaxFrames != 1<<20 {
		t.Error("there are other numbers of things")
	}
	if api.OK != 0 || api.ErrNil != 1 || api.ErrArg != 2 || api.ErrLimit != 3 {
		t.Error("the errors have other numbers")
	}
	if api.Off != 0 || api.Armed != 1 || api.Approach != 2 || api.Flare != 3 || api.Align != 4 || api.Rollout != 5 || api.Around != 6 {
		t.Error("the modes have other numbers")
	}
}

// wantNew asks New, whether there is a flight just if there is no error, and whether what was handed in stays, the room behind its end too.
func wantNew(t *testing.T, p api.Plane, faults []api.Fault, want api.Errno) *Flight {
	t.Helper()
	behind := faults[:cap(faults)]
	was, at := slices.Clone(behind), p
	f, errno := New(p, faults)
	if errno != want || (f != nil) != (want == api.OK) {
		t.Fatalf("New(%v, %v) = %p, %d, not %d", p, faults, f, errno, want)
	}
	if !slices.Equal(behind, was) || p != at {
		t.Fatalf("New(%v, %v) left %v, %v", at, was, p, behind)
	}
	if f != nil {
		wantLike(t, f, like(p))
	}
	return f
}

// among are n faults that may be, with one of them at a place.
func among(n, at int, fault api.Fault) []api.Fault {
	all := make([]api.Fault, n, n+3)
	for k := range all {
		all[k] = api.Fault{Kind: uint8(k % 6), At: uint32(k), Signal: k % 4, Source: k % 3, By: int64(k)}
	}
	all[at] = fault
	return all
}

// P29.1: as many as 16 faults may be, of any kind; more may not, whether they do anything or not.
func TestNewMany(t *testing.T) {
	fault := api.Fault{Kind: api.FaultOff, Signal: 3, Source: 2, By: 500}
	for n := 1; n <= 40; n++ {
		want := api.OK
		if n > 16 {
			want = api.ErrLimit
		}
		wantNew(t, api.Plane{H: 9000}, make([]api.Fault, n), want)
		wantNew(t, api.Plane{H: 9000}, among(n, n-1, fault), want)
	}
	wantNew(t, api.Plane{}, make([]api.Fault, 1000), api.ErrLimit)
	wantNew(t, api.Plane{}, make([]api.Fault, 16, 100), api.OK)
}

// P29.1: no faults, and nil, are the same.
func TestNewOfNoFaults(t *testing.T) {
	for _, faults := range [][]api.Fault{nil, {}, make([]api.Fault, 0, 5)} {
		f := wantNew(t, api.Plane{X: 180000, H: 9000}, faults, api.OK)
		m := like(api.Plane{X: 180000, H: 9000})
		for n := range 40 {
			wantFrame(t, f, m, api.Gust{Side: 1}, api.CrewArm, uint8(15-n/39))
		}
	}
}

// wantFault asks New of a fault by itself, and of it as the first, one in the middle, and the last one of 16.
func wantFault(t *testing.T, fault api.Fault, want api.Errno) {
	t.Helper()
	wantNew(t, api.Plane{}, []api.Fault{fault}, want)
	for _, at := range []int{0, 1, 7, 14, 15} {
		wantNew(t, api.Plane{X: -1, Y: 1, H: 900, Turn: 9}, among(16, at, fault), want)
	}
}

// P29.1: each kind that there is may be; each other one is ErrArg.
func TestNewKinds(t *testing.T) {
	for kind := range 256 {
		want := api.OK
		if kind > 5 {
			want = api.ErrArg
		}
		wantFault(t, api.Fault{Kind: uint8(kind), At: 3, Signal: 1, Source: 1, By: 300}, want)
		wantFault(t, api.Fault{Kind: uint8(kind)}, want)
	}
}

// P29.1: of what goes wrong with a source there must be the signal and the source.
func TestNewSources(t *testing.T) {
	for _, kind := range []uint8{api.FaultSilent, api.FaultStatus, api.FaultParity, api.FaultOff} {
		for signal := range 4 {
			for source := range 3 {
				wantFault(t, api.Fault{Kind: kind, Signal: signal, Source: source}, api.OK)
			}
			for _, none := range noSources() {
				wantFault(t, api.Fault{Kind: kind, Signal: signal, Source: none}, api.ErrArg)
			}
		}
		for _, none := range noNumbers {
			for source := range 3 {
				wantFault(t, api.Fault{Kind: kind, Signal: none, Source: source}, api.ErrArg)
			}
			wantFault(t, api.Fault{Kind: kind, Signal: none, Source: none}, api.ErrArg)
		}
	}
}

// P29.1: of a lane that dies there must be the lane, whatever the signal is.
func TestNewLanes(t *testing.T) {
	signals := append([]int{0, 1, 2, 3}, noNumbers...)
	for _, signal := range signals {
		for source := range 3 {
			wantFault(t, api.Fault{Kind: api.FaultLane, Signal: signal, Source: source}, api.OK)
		}
		for _, none := range noSources() {
			wantFault(t, api.Fault{Kind: api.FaultLane, Signal: signal, Source: none}, api.ErrArg)
		}
	}
}

// P29.1: a fault that is none is asked for nothing; of the others neither since when nor by how much.
func TestNewAsksNothingElse(t *testing.T) {
	for _, none := range noSources() {
		wantFault(t, api.Fault{Signal: none}, api.OK)
		wantFault(t, api.Fault{Source: none}, api.OK)
		wantFault(t, api.Fault{Signal: none, Source: none, At: 1, By: 1}, api.OK)
	}
	for kind := range uint8(6) {
		for _, at := range []uint32{0, 1, 2, 1 << 20, 1<<20 + 1, 1<<31 - 1, 1 << 31, math.MaxUint32} {
			for _, by := range []int64{0, 1, -1, 1 << 40, 1<<40 + 1, -1 << 40, -1<<40 - 1, math.MinInt64, math.MaxInt64} {
				wantFault(t, api.Fault{Kind: kind, At: at, Signal: 2, Source: 1, By: by}, api.OK)
			}
		}
	}
}

// P29.1: X, Y, H and Turn, each by itself, are -2^24 to 2^24; how it touched down is not asked for.
func TestNewPlane(t *testing.T) {
	const far = 1 << 24
	put := []func(p *api.Plane, n int64){
		func(p *api.Plane, n int64) { p.X = n },
		func(p *api.Plane, n int64) { p.Y = n },
		func(p *api.Plane, n int64) { p.H = n },
		func(p *api.Plane, n int64) { p.Turn = n },
	}
	may := []int64{0, 1, -1, far, -far, far - 1, 1 - far}
	mayNot := []int64{far + 1, -far - 1, 1 << 25, -1 << 25, 1 << 32, -1 << 32, 1<<32 + 1, math.MinInt64, math.MinInt64 + 1, math.MaxInt64 - 1, math.MaxInt64}
	others := []api.Plane{{}, {X: 7, Y: -7, H: 7, Turn: -7, Down: true, Sank: 3}, {X: far, Y: far, H: far, Turn: far}, {X: -far, Y: -far, H: -far, Turn: -far, Sank: math.MinInt64}}
	for _, set := range put {
		for _, p := range others {
			for _, n := range may {
				set(&p, n)
				wantNew(t, p, nil, api.OK)
				wantNew(t, p, among(16, 3, api.Fault{}), api.OK)
			}
			for _, n := range mayNot {
				set(&p, n)
				wantNew(t, p, nil, api.ErrArg)
				wantNew(t, p, among(16, 3, api.Fault{}), api.ErrArg)
			}
		}
	}
	for _, sank := range []int64{0, 1, -1, far + 1, -far - 1, math.MinInt64, math.MaxInt64} {
		wantNew(t, api.Plane{Sank: sank}, nil, api.OK)
		wantNew(t, api.Plane{Sank: sank, Down: true}, nil, api.OK)
	}
}

// P29.1: of two errors the first one that the promise names.
func TestNewErrors(t *testing.T) {
	for _, at := range []int{0, 8, 15, 16} {
		for _, fault := range []api.Fault{{Kind: 6}, {Kind: 255, Signal: -1, Source: -1}, {Kind: api.FaultSilent, Signal: 4}, {Kind: api.FaultOff, Source: 3}, {Kind: api.FaultLane, Source: -1}} {
			wantNew(t, api.Plane{}, among(17, at, fault), api.ErrLimit)
			wantNew(t, api.Plane{X: 1<<24 + 1, H: math.MinInt64}, among(17, at, fault), api.ErrLimit)
			wantNew(t, api.Plane{Y: 1<<24 + 1}, among(16, at%16, fault), api.ErrArg)
		}
	}
	wantNew(t, api.Plane{Turn: 1<<24 + 1}, make([]api.Fault, 17), api.ErrLimit)
}

// P29.1: what the caller changes in the faults behind the call changes nothing of the flight, nor do its frames of the faults.
func TestNewKeepsItsOwn(t *testing.T) {
	p := api.Plane{X: 180000, H: 9000}
	faults := make([]api.Fault, 2, 4)
	faults[0] = api.Fault{Kind: api.FaultSilent, At: 3, Signal: api.Height, Source: 1}
	faults[1] = api.Fault{Kind: api.FaultLane, At: 5, Source: 2}
	f := begin(t, p, faults...)
	g, _ := New(p, faults)
	m, o := like(p, faults...), like(p, faults...)
	was := slices.Clone(faults[:4])
	for n := range 20 {
		wantFrame(t, f, m, api.Gust{Up: 1}, api.CrewArm, 15)
		wantFrame(t, g, o, api.Gust{Up: -1}, 0, 15)
		if !slices.Equal(faults[:4], was) {
			t.Fatalf("the faults became %v", faults[:4])
		}
		if n == 1 {
			all := faults[:4]
			for k := range all {
				all[k] = api.Fault{Kind: api.FaultParity, Signal: k % 4, Source: -1}
			}
			copy(was, all)
		}
	}
}

// P29.1, P29.2: of a nil flight, and of a zero one, there is nothing, and nothing becomes of it.
func TestNoFlight(t *testing.T) {
	var zero Flight
	for _, f := range []*Flight{nil, &zero, {}} {
		for range 2 {
			for _, crew := range []uint8{0, 1, 255} {
				if out, errno := f.Frame(api.Gust{Up: 1}, crew, 15); out != (api.Output{}) || errno != api.ErrNil {
					t.Errorf("Frame = %v, %d", out, errno)
				}
			}
			if p, n := f.Plane(), f.Frames(); p != (api.Plane{}) || n != 0 {
				t.Errorf("Plane() = %v, Frames() = %d", p, n)
			}
			for _, n := range append([]int{0, 1, 2, 3}, noNumbers...) {
				if l, ok := f.Lane(n); ok || l != (api.Lane{}) {
					t.Errorf("Lane(%d) = %v, %t", n, l, ok)
				}
			}
		}
		if f != nil && (f.plane != api.Plane{} || f.lanes != nil || f.faults != nil || f.frames != 0) {
			t.Errorf("the flight became %v", *f)
		}
	}
}

// P29.2: Lane tells of the three lanes alone, ahead of the first frame and behind some.
func TestLane(t *testing.T) {
	f := begin(t, api.Plane{X: 180000, H: 9000}, api.Fault{Kind: api.FaultLane, At: 4, Source: 1})
	m := like(f.Plane(), api.Fault{Kind: api.FaultLane, At: 4, Source: 1})
	for range 12 {
		for n := range 3 {
			want, _ := m.trio.Lane(n)
			if l, ok := f.Lane(n); !ok || l != want || l.Links.Own != n {
				t.Fatalf("Lane(%d) = %v, %t", n, l, ok)
			}
		}
		for _, none := range noSources() {
			if l, ok := f.Lane(none); ok || l != (api.Lane{}) {
				t.Fatalf("Lane(%d) = %v, %t", none, l, ok)
			}
		}
		wantFrame(t, f, m, api.Gust{}, api.CrewArm, 15)
	}
}

// late is a flight that did n frames.
func late(t *testing.T, n int, faults ...api.Fault) (*Flight, *model) {
	t.Helper()
	p := api.Plane{X: 180000, H: 9000}
	f, m := begin(t, p, faults...), like(p, faults...)
	f.frames, m.frames = n, uint32(n)
	return f, m
}

// P29.1: the frame MaxFrames is the last one; one behind it is refused, and changes nothing.
func TestMaxFrames(t *testing.T) {
	last := api.Fault{Kind: api.FaultSilent, At: 1 << 20, Signal: 0, Source: 0}
	never := api.Fault{Kind: api.FaultSilent, At: 1<<20 + 1, Signal: 1, Source: 0}
	greatest := api.Fault{Kind: api.FaultLane, At: math.MaxUint32, Source: 1}
	f, m := late(t, 1<<20-3, last, never, greatest)
	for _, bad := range []int{0, 0, 1} {
		out := wantFrame(t, f, m, api.Gust{}, api.CrewArm, 15)
		l, _ := f.Lane(0)
		if l.Health[0][0].Bad != bad || l.Health[1][0].Bad != 0 || !out.Alive[1] {
			t.Fatalf("frame %d: %v, %v", f.Frames(), l.Health, out)
		}
	}
	for _, crew := range []uint8{0, 1, 2, 4, 255} {
		if out, errno := f.Frame(api.Gust{Side: 2, Up: -1}, crew, crew); out != (api.Output{}) || errno != api.ErrLimit {
			t.Fatalf("the frame behind the last one: %v, %d", out, errno)
		}
		wantLike(t, f, m)
	}
	if f.Frames() != 1<<20 {
		t.Errorf("Frames() = %d", f.Frames())
	}
}

// P29.2: Frames counts the frames that were done, from 0 on.
func TestFramesDone(t *testing.T) {
	f := begin(t, api.Plane{})
	for n := range 300 {
		if f.Frames() != n {
			t.Fatalf("Frames() = %d, not %d", f.Frames(), n)
		}
		if _, errno := f.Frame(api.Gust{}, uint8(n), 15); errno != api.OK {
			t.Fatalf("Frame: %d", errno)
		}
	}
}

// P29.1: the errors of what is beneath, wrapped or not, are told apart by their numbers, and stay what they are.
func TestWrapped(t *testing.T) {
	if err := wrapped("lanes", api.OK); err != nil || number(err) != api.OK {
		t.Errorf("wrapped OK is %v", err)
	}
	for errno := api.ErrNil; errno <= api.ErrState; errno++ {
		once := wrapped("source", errno)
		twice := trouble{who: "lanes", cause: once}
		if number(errno) != errno || number(once) != errno || number(twice) != errno {
			t.Errorf("of %d: %d, %d, %d", errno, number(errno), number(once), number(twice))
		}
		if once.Error() != "source: "+errno.Error() || twice.Error() != "lanes: source: "+errno.Error() {
			t.Errorf("of %d: %s, %s", errno, once, twice)
		}
	}
}

// P29.1: two flights share nothing: each is as it is alone, whatever becomes of the other one.
func TestTwoFlights(t *testing.T) {
	p, q := api.Plane{X: 180000, H: 9000}, api.Plane{X: 200000, Y: 90, H: 10000, Turn: 700}
	fault := api.Fault{Kind: api.FaultParity, At: 9, Signal: 3, Source: 1}
	f, same, g := begin(t, p, fault), begin(t, p, fault), begin(t, q)
	m, like2, o := like(p, fault), like(p, fault), like(q)
	for n := range 120 {
		wantFrame(t, f, m, api.Gust{Side: 2}, uint8(n%9/8), 15)
		if n%3 != 0 {
			wantFrame(t, g, o, api.Gust{Side: -2, Up: 1}, api.CrewArm, 15)
		}
		if n%2 == 0 {
			wantFrame(t, same, like2, api.Gust{}, api.CrewArm|api.CrewReset, 7)
		}
		wantLike(t, f, m)
		wantLike(t, g, o)
		wantLike(t, same, like2)
	}
}
