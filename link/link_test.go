package link

import (
	"math"
	"math/rand"
	"slices"
	"testing"

	"flarepath/api"
)

const ones = math.MaxUint32

// noLanes are numbers that no lane has.
var noLanes = []int{-1, 3, 4, 255, 256, math.MinInt, math.MaxInt}

// of tells what a lane knows at the end of a frame, all numbers unlike one another.
func of(own int, frame uint32) api.Links {
	return api.Links{
		Own:   own,
		Frame: frame,
		Heard: [3][3]uint32{
			{0x80000001, 0x91234560, 0xa0f0f0f0},
			{0xb5a5a5a4, 0xc0000003, 0xdcba9876},
			{0x6789abce, 0x7fffffff, 0x40000000},
		},
	}
}

// anyLinks tells Links whose numbers are any, of a lane that there is.
func anyLinks(r *rand.Rand) api.Links {
	l := api.Links{Own: r.Intn(3), Frame: r.Uint32()}
	for j := range 3 {
		for k := range 3 {
			l.Heard[j][k] = r.Uint32()
		}
	}
	return l
}

// anyMessage tells a message to a lane in a frame, as often right as wrong.
func anyMessage(r *rand.Rand, frame uint32) api.Message {
	m := api.Message{Lane: uint8(r.Intn(5)), Frame: frame, Mode: uint8(r.Uint32()), Level: uint8(r.Uint32()), Engage: r.Intn(2) == 0}
	if r.Intn(4) == 0 {
		m.Frame += uint32(r.Intn(5)) - 2
	}
	for k := range 3 {
		m.Heard[k] = uint8(r.Uint32())
	}
	return m
}

// stepped tells the chapter's Step bit by bit, a lane after the other.
func stepped(l api.Links, came []api.Message) api.Links {
	after := api.Links{Own: l.Own, Frame: l.Frame + 1}
	for j := range 3 {
		for k := range 3 {
			for bit := range 32 {
				heard := bit > 0 && l.Heard[j][k]>>(bit-1)%2 == 1
				for _, m := range came {
					if int(m.Lane) == l.Own || m.Frame != after.Frame {
						continue
					}
					if j == l.Own && k == int(m.Lane) && bit == 0 {
						heard = true
					}
					if j == int(m.Lane) && k != j && bit >= 1 && bit <= 8 && m.Heard[k]>>(bit-1)%2 == 1 {
						heard = true
					}
				}
				if heard {
					after.Heard[j][k] += 1 << bit
				}
			}
		}
	}
	return after
}

// told tells the message of a lane in the frame to come.
func told(l api.Links) api.Message {
	return api.Message{Lane: uint8(l.Own), Frame: l.Frame + 1, Heard: Tells(l)}
}

// P13.1: each lane begins with its number, the frame 0, and all heard by all.
func TestNew(t *testing.T) {
	for own := range 3 {
		want := api.Links{Own: own, Heard: [3][3]uint32{{ones, ones, ones}, {ones, ones, ones}, {ones, ones, ones}}}
		if l, e := New(own); l != want || e != api.OK {
			t.Errorf("New(%d) = %v, %d", own, l, e)
		}
	}
	for _, own := range noLanes {
		if l, e := New(own); l != (api.Links{}) || e != api.ErrArg {
			t.Errorf("New(%d) = %v, %d", own, l, e)
		}
	}
}

// The chapter's table of examples.
func TestExamples(t *testing.T) {
	l, _ := New(0)
	if got := Alive(l); got != [3]bool{true, true, true} {
		t.Errorf("New: Alive = %v", got)
	}
	for range 11 {
		l = Step(l, nil)
	}
	if got := Alive(l); got != [3]bool{true, true, true} {
		t.Errorf("behind 11 frames: Alive = %v", got)
	}
	l = Step(l, nil)
	if got := Alive(l); got != [3]bool{true, false, false} {
		t.Errorf("behind 12 frames: Alive = %v", got)
	}
	if _, e := New(3); e != api.ErrArg {
		t.Errorf("New(3): %d", e)
	}
}

// P13.1: a frame without messages moves each number one up, the highest bit goes, the lowest one is 0, and Frame is one more.
func TestStepNone(t *testing.T) {
	want := [3][3]uint32{
		{0x00000002, 0x22468ac0, 0x41e1e1e0},
		{0x6b4b4b48, 0x80000006, 0xb97530ec},
		{0xcf13579c, 0xfffffffe, 0x80000000},
	}
	for own := range 3 {
		for _, came := range [][]api.Message{nil, {}, make([]api.Message, 0, 4)} {
			l := of(own, 41)
			if got := Step(l, came); got != (api.Links{Own: own, Frame: 42, Heard: want}) {
				t.Errorf("of %d: Step = %x", own, got)
			}
		}
	}
}

// P13.1: a frame on, a number that holds one bit holds the next one, or none.
func TestStepEachBit(t *testing.T) {
	for place := range 9 {
		for bit := range 32 {
			l := api.Links{Own: 1}
			l.Heard[place/3][place%3] = 1 << bit
			want := api.Links{Own: 1, Frame: 1}
			if bit < 31 {
				want.Heard[place/3][place%3] = 1 << (bit + 1)
			}
			if got := Step(l, nil); got != want {
				t.Errorf("place %d, bit %d: Step = %x", place, bit, got)
			}
		}
	}
}

// P13.1: a message of another lane is heard itself, and what it tells of each lane but its own is put to what was there, one up.
func TestStepOne(t *testing.T) {
	heard := [3]uint8{0x81, 0x42, 0x27}
	for own := range 3 {
		for from := range 3 {
			if from == own {
				continue
			}
			want := Step(of(own, 7), nil)
			want.Heard[own][from]++
			for k := range 3 {
				if k != from {
					want.Heard[from][k] |= 2 * uint32(heard[k])
				}
			}
			m := api.Message{Lane: uint8(from), Frame: 8, Heard: heard}
			if got := Step(of(own, 7), []api.Message{m}); got != want {
				t.Errorf("of %d, from %d: Step = %x, not %x", own, from, got, want)
			}
		}
	}
}

// P13.1: the same with numbers of their own: Heard of the lane itself, and of the third one, only go on.
func TestStepPlaces(t *testing.T) {
	l := api.Links{Own: 2, Frame: 99, Heard: [3][3]uint32{{16, 1, 2}, {1, 1, 1}, {1, 1, 1}}}
	m := api.Message{Lane: 0, Frame: 100, Heard: [3]uint8{255, 0x80, 0x01}}
	want := api.Links{Own: 2, Frame: 100, Heard: [3][3]uint32{{32, 0x102, 6}, {2, 2, 2}, {3, 2, 2}}}
	if got := Step(l, []api.Message{m}); got != want {
		t.Errorf("Step = %x, not %x", got, want)
	}
}

// P13.1: what a lane tells of a frame behind which it tells again stays: bits are joined, never taken back.
func TestStepJoins(t *testing.T) {
	l := api.Links{Own: 0}
	l = Step(l, []api.Message{{Lane: 1, Frame: 1, Heard: [3]uint8{0, 0, 0b1010}}})
	l = Step(l, []api.Message{{Lane: 1, Frame: 2, Heard: [3]uint8{0, 0, 0b0001}}})
	if got := l.Heard[1][2]; got != 0b101010 {
		t.Errorf("Heard of 1, of 2: %b", got)
	}
}

// P13.1: messages of the lane itself, of no lane, and of another frame are let go.
func TestStepLetGo(t *testing.T) {
	heard := [3]uint8{255, 255, 255}
	for own := range 3 {
		l := of(own, 1000)
		want := Step(l, nil)
		letGo := []api.Message{{Lane: uint8(own), Frame: 1001, Heard: heard}}
		for _, from := range []uint8{3, 4, 128, 254, 255} {
			letGo = append(letGo, api.Message{Lane: from, Frame: 1001, Heard: heard})
		}
		for from := range 3 {
			for _, frame := range []uint32{0, 1, 999, 1000, 1002, 1001 + 1<<16, 1001 + 1<<31, ones} {
				letGo = append(letGo, api.Message{Lane: uint8(from), Frame: frame, Heard: heard})
			}
		}
		for _, m := range letGo {
			if got := Step(l, []api.Message{m}); got != want {
				t.Errorf("of %d: Step(%v) = %x", own, m, got)
			}
		}
		if got := Step(l, letGo); got != want {
			t.Errorf("of %d: Step of all that are let go = %x", own, got)
		}
		good := api.Message{Lane: uint8((own + 1) % 3), Frame: 1001, Heard: heard}
		if got := Step(l, append(letGo, good)); got != Step(l, []api.Message{good}) {
			t.Errorf("of %d: Step of all that are let go and one that is not = %x", own, got)
		}
	}
}

// P13.1: ahead of the first frame a message of the frame 0 is too early, or too late; one of the frame 1 is right.
func TestStepFirst(t *testing.T) {
	l := api.Links{Own: 0}
	if got := Step(l, []api.Message{{Lane: 1, Frame: 0, Heard: [3]uint8{255, 255, 255}}}); got != (api.Links{Own: 0, Frame: 1}) {
		t.Errorf("Frame 0: Step = %x", got)
	}
	if got := Step(l, []api.Message{{Lane: 1, Frame: 1}}); got.Heard[0][1] != 1 {
		t.Errorf("Frame 1: Step = %x", got)
	}
}

// orders tells all orders of messages.
func orders(l []api.Message) [][]api.Message {
	if len(l) == 0 {
		return [][]api.Message{nil}
	}
	var all [][]api.Message
	for i := range l {
		for _, rest := range orders(slices.Delete(slices.Clone(l), i, i+1)) {
			all = append(all, append([]api.Message{l[i]}, rest...))
		}
	}
	return all
}

// P13.1: of several messages all count, in each order.
func TestStepSeveral(t *testing.T) {
	l := api.Links{Own: 0, Frame: 4}
	one := api.Message{Lane: 1, Frame: 5, Heard: [3]uint8{0x01, 0xff, 0x10}}
	other := api.Message{Lane: 1, Frame: 5, Heard: [3]uint8{0x80, 0xff, 0x12}}
	third := api.Message{Lane: 1, Frame: 5, Heard: [3]uint8{0x04, 0x00, 0x40}}
	two := api.Message{Lane: 2, Frame: 5, Heard: [3]uint8{0x20, 0x08, 0xff}}
	tests := []struct {
		came []api.Message
		want [3][3]uint32
	}{
		{[]api.Message{one}, [3][3]uint32{{0, 1, 0}, {0x002, 0, 0x20}}},
		{[]api.Message{one, one}, [3][3]uint32{{0, 1, 0}, {0x002, 0, 0x20}}},
		{[]api.Message{one, other}, [3][3]uint32{{0, 1, 0}, {0x102, 0, 0x24}}},
		{[]api.Message{one, one, one}, [3][3]uint32{{0, 1, 0}, {0x002, 0, 0x20}}},
		{[]api.Message{one, one, third}, [3][3]uint32{{0, 1, 0}, {0x00a, 0, 0xa0}}},
		{[]api.Message{one, other, third}, [3][3]uint32{{0, 1, 0}, {0x10a, 0, 0xa4}}},
		{[]api.Message{one, two}, [3][3]uint32{{0, 1, 1}, {0x002, 0, 0x20}, {0x40, 0x10, 0}}},
		{[]api.Message{one, two, other, two}, [3][3]uint32{{0, 1, 1}, {0x102, 0, 0x24}, {0x40, 0x10, 0}}},
	}
	for i, x := range tests {
		for _, came := range orders(x.came) {
			if got := Step(l, came); got != (api.Links{Own: 0, Frame: 5, Heard: x.want}) {
				t.Errorf("%d: Step(%v) = %x", i, came, got.Heard)
			}
		}
	}
}

// P13.1: what else a message holds changes nothing, whether it may be or not.
func TestStepOtherFields(t *testing.T) {
	plain := api.Message{Lane: 2, Frame: 12, Heard: [3]uint8{3, 5, 9}}
	want := Step(of(1, 11), []api.Message{plain})
	others := []api.Message{
		{Mode: 6, Level: 2, Engage: true, Cmd: api.Command{Side: 1, Sink: 2, Turn: 3}},
		{Mode: 7}, {Mode: 255}, {Level: 3}, {Level: 255},
		{Cmd: api.Command{Side: math.MaxInt64, Sink: math.MinInt64, Turn: 1<<40 + 1}},
	}
	for _, m := range others {
		m.Lane, m.Frame, m.Heard = plain.Lane, plain.Frame, plain.Heard
		if got := Step(of(1, 11), []api.Message{m}); got != want {
			t.Errorf("Step(%v) = %x", m, got)
		}
	}
}

// P13.1, P13.2: of an Own that is no lane Step answers the Links as they are, Alive none, Tells all 0.
func TestNoLane(t *testing.T) {
	for _, own := range noLanes {
		l := of(own, 20)
		came := []api.Message{{Lane: 0, Frame: 21, Heard: [3]uint8{1, 2, 3}}, {Lane: 1, Frame: 21}, {Lane: 2, Frame: 21}, {Lane: 3, Frame: 21}, {Lane: 255, Frame: 20}}
		for n := range len(came) + 1 {
			if got := Step(l, came[:n]); got != l {
				t.Errorf("of %d: Step = %x", own, got)
			}
		}
		if got := Alive(l); got != [3]bool{} {
			t.Errorf("of %d: Alive = %v", own, got)
		}
		if got := Tells(l); got != [3]uint8{} {
			t.Errorf("of %d: Tells = %v", own, got)
		}
	}
}

// P13.1: Links whose numbers are any, and up to four messages of any kind, against the chapter told bit by bit.
func TestStepAny(t *testing.T) {
	r := rand.New(rand.NewSource(13))
	for range 5000 {
		l := anyLinks(r)
		if r.Intn(8) == 0 {
			l.Frame = []uint32{0, 1, ones - 1, ones}[r.Intn(4)]
		}
		came := make([]api.Message, r.Intn(5))
		for i := range came {
			came[i] = anyMessage(r, l.Frame+1)
		}
		if got, want := Step(l, came), stepped(l, came); got != want {
			t.Fatalf("Step(%x, %v) = %x, not %x", l, came, got, want)
		}
	}
}

// P13.1: what is handed in stays as it is, the room behind its end too.
func TestStepLeaves(t *testing.T) {
	r := rand.New(rand.NewSource(31))
	for range 200 {
		l := anyLinks(r)
		all := make([]api.Message, 6)
		for i := range all {
			all[i] = anyMessage(r, l.Frame+1)
		}
		links, messages := l, slices.Clone(all)
		Step(l, all[:3])
		Alive(l)
		Tells(l)
		if l != links || !slices.Equal(all, messages) {
			t.Fatalf("changed: %x, %v", l, all)
		}
	}
}

// P13.2: the lane itself is alive, and no other one of which nothing was heard.
func TestAliveItself(t *testing.T) {
	for own := range 3 {
		var want [3]bool
		want[own] = true
		if got := Alive(api.Links{Own: own}); got != want {
			t.Errorf("of %d: Alive = %v", own, got)
		}
	}
}

// P13.2: one bit alone makes another lane alive, if it is one of 4 to 11, heard by the lane itself or told by the third one.
func TestAliveEachBit(t *testing.T) {
	for own := range 3 {
		for j := range 3 {
			for k := range 3 {
				for bit := range 32 {
					l := api.Links{Own: own}
					l.Heard[j][k] = 1 << bit
					var want [3]bool
					want[own] = true
					if j != k && bit >= 4 && bit <= 11 {
						want[k] = true
					}
					if got := Alive(l); got != want {
						t.Errorf("of %d, %d heard %d, bit %d: Alive = %v", own, j, k, bit, got)
					}
				}
			}
		}
	}
}

// P13.2: all bits but the counted ones, and all that lanes tell of themselves, make nobody alive.
func TestAliveNotCounted(t *testing.T) {
	for own := range 3 {
		l := api.Links{Own: own}
		for j := range 3 {
			for k := range 3 {
				l.Heard[j][k] = 0xfffff00f
			}
			l.Heard[j][j] = ones
		}
		var want [3]bool
		want[own] = true
		if got := Alive(l); got != want {
			t.Errorf("of %d: Alive = %v", own, got)
		}
	}
}

// P13.2: of itself a lane tells all ones, of each other one the lowest eight bits of what it heard itself.
func TestTells(t *testing.T) {
	tests := []struct {
		own  int
		want [3]uint8
	}{
		{0, [3]uint8{0xff, 0x60, 0xf0}},
		{1, [3]uint8{0xa4, 0xff, 0x76}},
		{2, [3]uint8{0xce, 0xff, 0xff}},
	}
	for _, x := range tests {
		l := of(x.own, 5)
		if got := Tells(l); got != x.want {
			t.Errorf("of %d: Tells = %x", x.own, got)
		}
		if got := Tells(api.Links{Own: x.own})[x.own]; got != 0xff {
			t.Errorf("of %d: it tells %x of itself", x.own, got)
		}
	}
}

// P13.2: each bit of each number alone: those above the eighth, and what others heard, are not told.
func TestTellsEachBit(t *testing.T) {
	for own := range 3 {
		for j := range 3 {
			for k := range 3 {
				for bit := range 32 {
					l := api.Links{Own: own}
					l.Heard[j][k] = 1 << bit
					var want [3]uint8
					if j == own && bit < 8 {
						want[k] = 1 << bit
					}
					want[own] = 0xff
					if got := Tells(l); got != want {
						t.Errorf("of %d, %d heard %d, bit %d: Tells = %x", own, j, k, bit, got)
					}
				}
			}
		}
	}
}

// P13.2: Links whose numbers are any, against the chapter's words.
func TestAliveTellsAny(t *testing.T) {
	r := rand.New(rand.NewSource(132))
	for range 3000 {
		l := anyLinks(r)
		for j := range 3 {
			for k := range 3 {
				l.Heard[j][k] &= r.Uint32() & r.Uint32()
			}
		}
		var alive [3]bool
		var tells [3]uint8
		for k := range 3 {
			alive[k] = k == l.Own
			tells[k] = uint8(l.Heard[l.Own][k] % 256)
			for j := range 3 {
				for bit := 4; j != k && bit <= 11; bit++ {
					alive[k] = alive[k] || l.Heard[j][k]>>bit%2 == 1
				}
			}
		}
		tells[l.Own] = 255
		if got := Alive(l); got != alive {
			t.Fatalf("Alive(%x) = %v", l, got)
		}
		if got := Tells(l); got != tells {
			t.Fatalf("Tells(%x) = %v", l, got)
		}
	}
}

// P13.1, P13.2: lanes that nobody heard are alive for Silence and Window frames, and dead from the next one on.
func TestNobodyHeard(t *testing.T) {
	for own := range 3 {
		l, _ := New(own)
		for frame := 1; frame <= 60; frame++ {
			l = Step(l, nil)
			want := [3]bool{frame <= 11, frame <= 11, frame <= 11}
			want[own] = true
			if got := Alive(l); got != want {
				t.Errorf("of %d, frame %d: Alive = %v", own, frame, got)
			}
		}
	}
}

// P13.2: one that was heard once is alive in the frames in which that bit counts, and in no other one.
func TestHeardOnce(t *testing.T) {
	for own := range 3 {
		for from := range 3 {
			if from == own {
				continue
			}
			l, _ := New(own)
			for frame := 1; frame <= 60; frame++ {
				var came []api.Message
				if frame == 20 {
					came = []api.Message{{Lane: uint8(from), Frame: 20}}
				}
				l = Step(l, came)
				want := frame <= 11 || frame >= 24 && frame <= 31
				if got := Alive(l)[from]; got != want {
					t.Errorf("of %d, frame %d: Alive of %d = %v", own, frame, from, got)
				}
			}
		}
	}
}

// P13.2: one that only the third lane heard is alive for both.
func TestHeardByThird(t *testing.T) {
	a, _ := New(0)
	c, _ := New(2)
	for frame := 1; frame <= 60; frame++ {
		toA, toC := []api.Message{told(c)}, []api.Message{told(a)}
		if frame == 20 {
			toC = append(toC, api.Message{Lane: 1, Frame: 20})
		}
		a, c = Step(a, toA), Step(c, toC)
		want := frame <= 11 || frame >= 24 && frame <= 31
		if Alive(a)[1] != want || Alive(c)[1] != want {
			t.Errorf("frame %d: Alive = %v, %v", frame, Alive(a), Alive(c))
		}
	}
}

// past is what a lane knows, by the numbers of the frames in which each lane heard each one, from the frame 1 on.
type past [3][3]map[int]bool

func newPast() past {
	var p past
	for j := range p {
		for k := range p[j] {
			p[j][k] = map[int]bool{}
		}
	}
	return p
}

// heard tells whether, by what is known, j heard k in a frame: ahead of the first one all did.
func (p past) heard(j, k, frame int) bool {
	return frame <= 0 || p[j][k][frame]
}

// take puts down what the lane from told in a frame: that it is there, and whom it heard in the eight frames ahead.
func (p past) take(own, from, frame int, its past) {
	p[own][from][frame] = true
	for k := range 3 {
		for ago := 1; ago <= 8 && k != from; ago++ {
			if its.heard(from, k, frame-ago) && frame-ago > 0 {
				p[from][k][frame-ago] = true
			}
		}
	}
}

// alive tells who is alive at the end of a frame.
func (p past) alive(own, frame int) [3]bool {
	var alive [3]bool
	for k := range 3 {
		alive[k] = k == own
		for j := range 3 {
			for ago := 4; ago <= 11 && j != k; ago++ {
				alive[k] = alive[k] || p.heard(j, k, frame-ago)
			}
		}
	}
	return alive
}

// bits tells what is known at the end of a frame as numbers.
func (p past) bits(frame int) [3][3]uint32 {
	var bits [3][3]uint32
	for j := range 3 {
		for k := range 3 {
			for ago := range 32 {
				if p.heard(j, k, frame-ago) {
					bits[j][k] += 1 << ago
				}
			}
		}
	}
	return bits
}

// P13.1, P13.2: three lanes that tell each other whom they heard, messages lost at random, against sets of the frames in which they did.
func TestAgainstPast(t *testing.T) {
	r := rand.New(rand.NewSource(133))
	for round := range 60 {
		var l [3]api.Links
		pasts := [3]past{newPast(), newPast(), newPast()}
		for own := range 3 {
			l[own], _ = New(own)
		}
		lost := r.Float64()
		for frame := 1; frame <= 80; frame++ {
			var came [3][]api.Message
			for to := range 3 {
				for from := range 3 {
					if from == to || r.Float64() < lost {
						continue
					}
					came[to] = append(came[to], told(l[from]))
					// Whom a lane heard in this frame is told in the next one: what it takes now changes nothing of what it tells.
					pasts[to].take(to, from, frame, pasts[from])
				}
			}
			for own := range 3 {
				l[own] = Step(l[own], came[own])
				if l[own].Heard != pasts[own].bits(frame) || int(l[own].Frame) != frame {
					t.Fatalf("round %d, frame %d, lane %d: %x, not %x", round, frame, own, l[own], pasts[own].bits(frame))
				}
				if got, want := Alive(l[own]), pasts[own].alive(own, frame); got != want {
					t.Fatalf("round %d, frame %d, lane %d: Alive = %v, not %v", round, frame, own, got, want)
				}
			}
		}
	}
}

// line is how messages go from one lane to another: whether that of a frame is lost.
type line func(frame int) bool

// never loses nothing.
func never(int) bool { return false }

// always loses all.
func always(int) bool { return true }

// every lets one come in each so many frames.
func every(many, at int) line {
	return func(frame int) bool { return frame%many != at%many }
}

// upTo loses at random, yet no more than so many one behind the other.
func upTo(r *rand.Rand, most int, share float64) line {
	row := 0
	return func(int) bool {
		if row < most && r.Float64() < share {
			row++
			return true
		}
		row = 0
		return false
	}
}

// atRandom loses that share of all.
func atRandom(r *rand.Rand, share float64) line {
	return func(int) bool { return r.Float64() < share }
}

// third is what the third lane tells to each of the two: what a lane of its own would, or what it makes up.
type third func(frame int, own api.Links) (toA, toB []api.Message)

func honest(_ int, own api.Links) ([]api.Message, []api.Message) {
	return []api.Message{told(own)}, []api.Message{told(own)}
}

// deadIn is an honest one that says nothing in the frames from one to another.
func deadIn(from, to int) third {
	return func(frame int, own api.Links) ([]api.Message, []api.Message) {
		if frame >= from && frame <= to {
			return nil, nil
		}
		return honest(frame, own)
	}
}

// liar tells each of the two something else, several times or not at all, of any frame.
func liar(r *rand.Rand) third {
	some := func(frame int, own api.Links) []api.Message {
		var l []api.Message
		for range r.Intn(3) {
			m := anyMessage(r, uint32(frame))
			m.Lane = uint8(own.Own)
			l = append(l, m)
		}
		return l
	}
	return func(frame int, own api.Links) ([]api.Message, []api.Message) {
		return some(frame, own), some(frame, own)
	}
}

// flatterer tells one that it heard all, and the other that it heard none.
func flatterer(_ int, own api.Links) ([]api.Message, []api.Message) {
	all, none := told(own), told(own)
	all.Heard, none.Heard = [3]uint8{255, 255, 255}, [3]uint8{}
	return []api.Message{all}, []api.Message{none}
}

// lines are how messages go: between the two, and from the third one to them and back.
type lines struct {
	ab, ba, ca, cb, ac, bc line
}

// unlost tells the messages, or none if they are lost.
func unlost(lost bool, l ...api.Message) []api.Message {
	if lost {
		return nil
	}
	return l
}

// flight goes through frames with the lanes a and b, the third one between them, and tells in which ones the two hold others for alive, and in how many the third one is alive.
func flight(frames int, a, b int, x third, l lines) (unlike []int, alive int) {
	c := 3 - a - b
	one, _ := New(a)
	two, _ := New(b)
	three, _ := New(c)
	for frame := 1; frame <= frames; frame++ {
		toOne, toTwo := x(frame, three)
		ofOne, ofTwo := told(one), told(two)
		cameOne := append(unlost(l.ba(frame), ofTwo), unlost(l.ca(frame), toOne...)...)
		cameTwo := append(unlost(l.cb(frame), toTwo...), unlost(l.ab(frame), ofOne)...)
		cameThree := append(unlost(l.ac(frame), ofOne), unlost(l.bc(frame), ofTwo)...)
		one, two, three = Step(one, cameOne), Step(two, cameTwo), Step(three, cameThree)
		if Alive(one) != Alive(two) || !Alive(one)[a] || !Alive(one)[b] {
			unlike = append(unlike, frame)
		}
		if Alive(one)[c] {
			alive++
		}
	}
	return unlike, alive
}

// pairs are all pairs of lanes, both ways.
var pairs = [][2]int{{0, 1}, {0, 2}, {1, 2}, {1, 0}, {2, 0}, {2, 1}}

// P13.3: exactly Silence lost in a row again and again, at each offset of the two ways, whatever the third one does.
func TestAlikeInRows(t *testing.T) {
	r := rand.New(rand.NewSource(134))
	thirds := []third{honest, deadIn(1, 500), deadIn(40, 500), deadIn(40, 70), deadIn(30, 41), flatterer, liar(r)}
	for _, p := range pairs {
		for i, x := range thirds {
			for offset := range 4 {
				toThird := atRandom(r, 0.5)
				for _, far := range []lines{
					{ca: never, cb: never, ac: never, bc: never},
					{ca: never, cb: always, ac: never, bc: always},
					{ca: always, cb: never, ac: toThird, bc: toThird},
					{ca: every(9, 1), cb: always, ac: always, bc: always},
					{ca: atRandom(r, 0.9), cb: atRandom(r, 0.9), ac: toThird, bc: toThird},
				} {
					far.ab, far.ba = every(4, 1), every(4, 1+offset)
					if unlike, _ := flight(120, p[0], p[1], x, far); unlike != nil {
						t.Fatalf("lanes %v, third %d, offset %d: unlike in %v", p, i, offset, unlike)
					}
				}
			}
		}
	}
}

// P13.3: losses at random that differ both ways, no more than Silence in a row, one way or both at the most that there may be.
func TestAlikeAtRandom(t *testing.T) {
	r := rand.New(rand.NewSource(135))
	some, whole := 0, 0
	for range 400 {
		p := pairs[r.Intn(len(pairs))]
		from := r.Intn(150)
		x := []third{honest, liar(r), flatterer, deadIn(from, from+r.Intn(60))}[r.Intn(4)]
		l := lines{
			ab: upTo(r, 3, r.Float64()*1.5), ba: upTo(r, 3, r.Float64()*1.5),
			ca: atRandom(r, r.Float64()*1.2), cb: atRandom(r, r.Float64()*1.2),
			ac: atRandom(r, r.Float64()), bc: atRandom(r, r.Float64()),
		}
		unlike, alive := flight(200, p[0], p[1], x, l)
		if unlike != nil {
			t.Fatalf("lanes %v: unlike in %v", p, unlike)
		}
		if alive < 200 {
			some++
		} else {
			whole++
		}
	}
	// Flights in which nothing happens to the third one would prove nothing.
	if some < 100 || whole < 50 {
		t.Errorf("the third one was dead at times in %d flights, never in %d", some, whole)
	}
}

// P13.3: one message of the third lane that only one of the two heard, ahead of each row of losses: the other one learns of it in time.
func TestAlikeByOneMessage(t *testing.T) {
	for _, p := range pairs {
		for at := 12; at < 40; at++ {
			once := func(frame int) bool { return frame != at }
			for offset := range 4 {
				for back := range 4 {
					l := lines{ab: every(4, offset), ba: every(4, back), ca: once, cb: always, ac: always, bc: always}
					unlike, alive := flight(80, p[0], p[1], honest, l)
					if unlike != nil {
						t.Fatalf("lanes %v, heard in %d: unlike in %v", p, at, unlike)
					}
					// Silence and Window frames from the beginning, and Window of that message.
					if alive != 11+8 {
						t.Fatalf("lanes %v, heard in %d: alive in %d frames", p, at, alive)
					}
				}
			}
		}
	}
}

// With one more lost in a row nothing is promised, but that all calls end.
func TestMoreLost(t *testing.T) {
	r := rand.New(rand.NewSource(136))
	for _, p := range pairs {
		for offset := range 5 {
			flight(200, p[0], p[1], liar(r), lines{ab: every(5, 0), ba: every(5, offset), ca: atRandom(r, 0.8), cb: atRandom(r, 0.8), ac: never, bc: never})
		}
	}
}
