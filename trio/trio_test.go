package trio

import (
	"math"
	"testing"

	"flarepath/api"
	"flarepath/lane"
	"flarepath/lanes"
	"flarepath/port"
)

type (
	marks = [api.Lanes]bool
	three = [api.Lanes]api.Command
)

// noLanes are numbers that no lane has.
var noLanes = []int{
	-1, 3, -2, -3, 4, 5, 6, 7, 8, 127, 128, 255, 256, 257, -255, -256, 1 << 16, 1<<16 + 1, -1 << 16, 1 << 31, 1 << 32, 1<<32 + 1, -1 << 31, -1 << 32,
	math.MinInt, math.MinInt + 1, math.MaxInt - 1, math.MaxInt,
}

// word is the one by which a source of a signal says value.
func word(signal, source int, value int64) uint32 {
	w, errno := port.Put(signal, source, value)
	if errno != api.OK {
		panic(errno)
	}
	return w
}

// says is a frame in which all sources say the same of Loc, Glide, Height and Drift, and all units are well.
func says(crew uint8, v ...int64) api.Input {
	x := api.Input{Crew: crew, Units: 15}
	for signal := range x.Words {
		for source := range x.Words[signal] {
			x.Words[signal][source] = word(signal, source, v[signal])
		}
	}
	return x
}

// high is a frame on the beam, above the alert height.
func high(crew uint8) api.Input { return says(crew, 0, 0, 9000, 0) }

// dead is a frame in which these lanes are dead.
func dead(x api.Input, these ...int) api.Input {
	for _, n := range these {
		x.Dead[n] = true
	}
	return x
}

// lost is a frame in which what from tells does not come to to.
func lost(x api.Input, from, to int) api.Input {
	x.Lost[from][to] = true
	return x
}

// of are the marks of a number's three lowest bits.
func of(bits int) marks {
	var m marks
	for n := range m {
		m[n] = bits>>n&1 != 0
	}
	return m
}

// step takes a trio a frame on, which it can, and asks whether what is said of any frame holds.
func step(t *testing.T, x *Trio, in api.Input) api.Output {
	t.Helper()
	was := *x
	out, errno := x.Frame(in)
	if errno != api.OK {
		t.Fatalf("Frame: %d", errno)
	}
	for n := range 3 {
		l, ok := x.Lane(n)
		if !ok || !lane.May(l) || l.Links.Own != n || l.Frame != was.each[n].Frame+1 || out.Alive[n] == in.Dead[n] {
			t.Fatalf("lane %d behind Frame: %v, %t, %v", n, l, ok, out)
		}
	}
	if out.Is != (in.Dead != marks{true, true, true}) {
		t.Fatalf("Frame(dead %v) = %v", in.Dead, out)
	}
	return out
}

// steps takes a trio n frames on, all alike.
func steps(t *testing.T, x *Trio, n int, in api.Input) {
	t.Helper()
	for range n {
		step(t, x, in)
	}
}

// landing is a trio in the mode Approach with the level Land3, six frames behind New.
func landing(t *testing.T) *Trio {
	t.Helper()
	x := New()
	steps(t, x, 6, high(api.CrewArm))
	for n, l := range x.each {
		if l.State.Mode != api.Approach || l.Cap.Level != api.Land3 {
			t.Fatalf("lane %d of a landing: %v", n, l)
		}
	}
	return x
}

// P27.1: each of a new trio's lanes is what lane.New tells, no two are apart, and no two trios share anything.
func TestNew(t *testing.T) {
	x, y := New(), New()
	if x == nil || y == nil || x == y {
		t.Fatalf("New() = %p, %p", x, y)
	}
	for n := range 3 {
		want, _ := lane.New(n)
		if l, ok := x.Lane(n); !ok || l != want {
			t.Errorf("Lane(%d) = %v, %t, not %v", n, l, ok, want)
		}
		for k := range 3 {
			if d := x.Apart(n, k); d != 0 {
				t.Errorf("Apart(%d, %d) = %d", n, k, d)
			}
		}
	}
	steps(t, x, 9, lost(high(api.CrewArm), 0, 1))
	for n := range 3 {
		want, _ := lane.New(n)
		if l, ok := y.Lane(n); !ok || l != want {
			t.Errorf("Lane(%d) of another trio = %v, %t, not %v", n, l, ok, want)
		}
		if l, _ := x.Lane(n); l == want || l.Frame != 9 {
			t.Errorf("Lane(%d) behind nine frames = %v", n, l)
		}
	}
	if *New() != *y {
		t.Errorf("New() = %v, then %v", y, New())
	}
}

// P27.1: the chapter's examples.
func TestExamples(t *testing.T) {
	x := New()
	if out, errno := x.Frame(api.Input{}); errno != api.OK || out.Alive != (marks{true, true, true}) || !out.Is {
		t.Errorf("Frame(silence) = %v, %d", out, errno)
	}
	if out, errno := x.Frame(dead(api.Input{}, 0, 1, 2)); errno != api.OK || out.Is {
		t.Errorf("Frame(all dead) = %v, %d", out, errno)
	}
	if l, ok := x.Lane(3); ok || l != (api.Lane{}) {
		t.Errorf("Lane(3) = %v, %t", l, ok)
	}
	if c := (*Trio)(nil).Copy(); c != nil {
		t.Errorf("Copy of nil = %v", c)
	}
}

// P27.1, P27.2: the numbers of package api that the chapter, and P0.4, go by.
func TestNumbers(t *testing.T) {
	if api.Lanes != 3 || api.OK != 0 || api.ErrNil != 1 || api.Silence != 3 {
		t.Errorf("%d lanes, %d, %d, silence %d", api.Lanes, api.OK, api.ErrNil, api.Silence)
	}
}

// P27.1: of a nil trio, and of a zero one, there is nothing, and nothing is changed by asking.
func TestNotThere(t *testing.T) {
	var zero, other Trio
	for _, x := range []*Trio{nil, &zero, new(Trio), &other} {
		for range 3 {
			for _, in := range []api.Input{{}, high(api.CrewArm), dead(high(0), 1), dead(api.Input{}, 0, 1, 2)} {
				if out, errno := x.Frame(in); errno != api.ErrNil || out != (api.Output{}) {
					t.Errorf("Frame = %v, %d", out, errno)
				}
			}
			for n := -1; n <= 3; n++ {
				if l, ok := x.Lane(n); ok || l != (api.Lane{}) {
					t.Errorf("Lane(%d) = %v, %t", n, l, ok)
				}
				for k := -1; k <= 3; k++ {
					if d := x.Apart(n, k); d != 0 {
						t.Errorf("Apart(%d, %d) = %d", n, k, d)
					}
				}
			}
			if c := x.Copy(); c != nil {
				t.Errorf("Copy = %v", c)
			}
		}
		if x != nil && *x != (Trio{}) {
			t.Errorf("a zero trio became %v", *x)
		}
	}
}

// P27.1: each of the three lanes, and none beside them.
func TestLane(t *testing.T) {
	x := landing(t)
	step(t, x, dead(says(0, 100, 900, 9000, 0), 1, 2))
	step(t, x, dead(says(0, -70, 90, 9000, 0), 2))
	was := *x
	for n := range 3 {
		if l, ok := x.Lane(n); !ok || l.Links.Own != n || l != x.each[n] || l.Frame != 8 {
			t.Errorf("Lane(%d) = %v, %t", n, l, ok)
		}
	}
	for _, n := range noLanes {
		if l, ok := x.Lane(n); ok || l != (api.Lane{}) {
			t.Errorf("Lane(%d) = %v, %t", n, l, ok)
		}
	}
	if *x != was {
		t.Errorf("Lane made %v of %v", *x, was)
	}
}

// P27.1: what is done to a lane that was told is not done to the trio.
func TestLaneIsNew(t *testing.T) {
	x := landing(t)
	for n := range 3 {
		l, _ := x.Lane(n)
		kept := l
		l.Frame, l.Links, l.State, l.Cmd = 7, api.Links{}, api.State{}, api.Command{Side: 1}
		l.Health[1][1].Bad = 3
		if again, ok := x.Lane(n); !ok || again != kept {
			t.Errorf("Lane(%d) = %v, %t, then %v", n, kept, ok, again)
		}
	}
}

// P27.1: by how much what two lanes took last differs, told out: Side, Sink and Turn each by itself, the greatest of them, either way round.
func TestApart(t *testing.T) {
	rows := []struct {
		took          three
		d01, d02, d12 int64
	}{
		{three{}, 0, 0, 0},
		{three{{Side: 5}, {Side: 9}, {Side: -2}}, 4, 7, 11},
		{three{{Sink: -20}, {Sink: 24}, {Sink: 1}}, 44, 21, 23},
		{three{{Turn: -500}, {Turn: 500}, {}}, 1000, 500, 500},
		{three{{Side: 1, Sink: 2, Turn: 3}, {Side: -4, Sink: 3, Turn: 3}, {Side: 1, Sink: 9, Turn: -7}}, 5, 10, 10},
		{three{{Side: 1, Sink: 2, Turn: 3}, {Side: 1, Sink: 2, Turn: 3}, {Side: 1, Sink: 2, Turn: 4}}, 0, 1, 1},
	}
	for _, row := range rows {
		x := New()
		for n := range x.each {
			x.each[n] = aligned(n, row.took[n])
		}
		step(t, x, deaf(api.Input{}))
		want := [3][3]int64{{0, row.d01, row.d02}, {row.d01, 0, row.d12}, {row.d02, row.d12, 0}}
		for a := range want {
			for b, d := range want[a] {
				if got := x.Apart(a, b); got != d {
					t.Errorf("%v: Apart(%d, %d) = %d, not %d", row.took, a, b, got, d)
				}
			}
			for _, none := range noLanes {
				if x.Apart(a, none) != 0 || x.Apart(none, a) != 0 || x.Apart(none, none) != 0 || x.Apart(none, -none) != 0 {
					t.Errorf("%v: Apart(%d, %d) is not 0", row.took, a, none)
				}
			}
		}
	}
}

// P27.1: Apart goes by what the lanes took, not by their own commands, and by what they took last, dead by now or not.
func TestApartOfTaken(t *testing.T) {
	x := New()
	own := three{{Side: 1}, {Side: 8}, {Side: 20}}
	for n := range x.each {
		x.each[n] = aligned(n, own[n])
	}
	step(t, x, api.Input{}) // All hear all: each takes 8.
	if x.Apart(0, 1) != 0 || x.Apart(0, 2) != 0 || x.Apart(1, 2) != 0 {
		t.Errorf("each took %v", x.took)
	}
	step(t, x, dead(deaf(api.Input{}), 1)) // Each takes its own; the dead one took 8 last.
	if x.Apart(0, 1) != 7 || x.Apart(1, 2) != 12 || x.Apart(0, 2) != 19 {
		t.Errorf("each took %v", x.took)
	}
	steps(t, x, 30, dead(api.Input{}, 0, 1, 2))
	if x.Apart(0, 1) != 7 || x.Apart(1, 2) != 12 || x.Apart(0, 2) != 19 {
		t.Errorf("each took %v last", x.took)
	}
}

// P27.1: Apart is lanes.Apart of what two lanes took, in many frames.
func TestApartOfMany(t *testing.T) {
	m := mixer(1)
	for range 300 {
		x := m.trio()
		step(t, x, m.input())
		was := *x
		for a := range 3 {
			for b := range 3 {
				if got, want := x.Apart(a, b), lanes.Apart(was.took[a], was.took[b]); got != want {
					t.Fatalf("%v: Apart(%d, %d) = %d, not %d", was.took, a, b, got, want)
				}
			}
		}
		if *x != was {
			t.Fatalf("Apart made %v of %v", *x, was)
		}
	}
}

// P27.1: a copy has what the trio has; from then on each goes its own way.
func TestCopy(t *testing.T) {
	m := mixer(2)
	for range 200 {
		x := m.trio()
		steps(t, x, m.below(3), m.input())
		was := *x
		c := x.Copy()
		if c == nil || c == x || *c != was || *x != was {
			t.Fatalf("Copy of %v = %v", was, c)
		}
		in, other := m.input(), m.input()
		step(t, c, in)
		if *x != was {
			t.Fatalf("a frame of the copy made %v of %v", *x, was)
		}
		behind := *c
		step(t, x, other)
		if *c != behind {
			t.Fatalf("a frame of the trio made %v of %v", *c, behind)
		}
		again := x.Copy().Copy()
		if step(t, x, in) != step(t, again, in) || *x != *again {
			t.Fatalf("the copy of a copy: %v, not %v", *again, *x)
		}
	}
}
