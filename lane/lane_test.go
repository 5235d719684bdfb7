package lane

import (
	"bytes"
	"math"
	"slices"
	"testing"

	"flarepath/api"
	"flarepath/band"
	"flarepath/beam"
	"flarepath/cap"
	"flarepath/check"
	"flarepath/dict"
	"flarepath/equip"
	"flarepath/ladder"
	"flarepath/link"
	"flarepath/mode"
	"flarepath/msg"
	"flarepath/out"
	"flarepath/persist"
	"flarepath/port"
	"flarepath/vote"
	"flarepath/warn"
)

const ones uint32 = math.MaxUint32

type (
	healths = [api.Signals][api.Sources]api.Health
	wires   = [api.Signals][api.Sources]uint32
	signals = [api.Signals]api.Voted
)

// passed is a test that is passed.
var passed = api.Pretest{Step: 4, Passed: true}

// noLanes are numbers that no lane has.
var noLanes = []int{
	-1, 3, -2, 4, 5, 7, 8, 127, 128, 255, 256, 257, -255, -256, 1 << 16, 1<<16 + 1, -1 << 16, 1 << 31, 1<<32 + 1, 1 << 32, -1 << 31, -1 << 32,
	math.MinInt, math.MinInt + 1, math.MaxInt - 1, math.MaxInt,
}

// word is the one by which a source of a signal says value.
func word(signal, source int, value int64) uint32 {
	w, errno := port.Put(signal, source, value)
	if errno != api.OK {
		panic(errno)
	}
	return w
}

// frame is one in which all sources say the same of Loc, Glide, Height and Drift, and all units are well.
func frame(crew uint8, v ...int64) api.Input {
	x := api.Input{Crew: crew, Units: 15}
	for signal := range x.Words {
		for source := range x.Words[signal] {
			x.Words[signal][source] = word(signal, source, v[signal])
		}
	}
	return x
}

// high is a frame on the beam, above the alert height.
func high(crew uint8) api.Input { return frame(crew, 0, 0, 9000, 0) }

// without is a frame in which a signal is not there: none of its sources says anything.
func without(x api.Input, signal int) api.Input {
	x.Words[signal] = [api.Sources]uint32{}
	return x
}

// down is a frame in which the wheels are down.
func down(x api.Input) api.Input {
	x.Wheel = true
	return x
}

// units is a frame in which these units are well.
func units(x api.Input, well uint8) api.Input {
	x.Units = well
	return x
}

// state is the one that may be of a mode.
func state(mode uint8) api.State {
	return api.State{Mode: mode, Toga: mode >= 2 && mode <= 4}
}

// ready is a lane in a mode, that has all that Land3 needs.
func ready(mode uint8) api.Lane {
	links, _ := link.New(1)
	links.Frame = 40
	return api.Lane{Frame: 40, Links: links, Test: passed, Cap: api.Cap{Level: 2, Most: 2}, State: state(mode)}
}

// unlike is a ready lane that heard each lane in other frames, and each of them of late.
func unlike(own int, mode uint8) api.Lane {
	l := ready(mode)
	l.Links = api.Links{Own: own, Frame: 40, Heard: [3][3]uint32{
		{0x80000011, 0x91234560, 0xa0f0f0f0},
		{0xb5a5a5a4, 0xc0000033, 0xdcba9876},
		{0x6789abce, 0x7fffffff, 0x40000050},
	}}
	return l
}

// at is a lane at the end of a frame.
func at(l api.Lane, frame uint32) api.Lane {
	l.Frame, l.Links.Frame = frame, frame
	return l
}

// unheard is a lane of which nobody but the lane k itself heard k in the last n frames.
func unheard(l api.Lane, k, n int) api.Lane {
	for j := range l.Links.Heard {
		if j != k {
			l.Links.Heard[j][k] = ones << n
		}
	}
	return l
}

// laid tells the bytes of a message, whether it may be or not, engage being any byte.
func laid(m api.Message, engage byte) []byte {
	b := []byte{165, m.Lane}
	little := func(n uint64, many int) {
		for i := range many {
			b = append(b, byte(n>>(8*i)))
		}
	}
	little(uint64(m.Frame), 4)
	b = append(b, m.Heard[0], m.Heard[1], m.Heard[2], m.Mode, m.Level, engage)
	little(uint64(m.Cmd.Side), 8)
	little(uint64(m.Cmd.Sink), 8)
	little(uint64(m.Cmd.Turn), 8)
	sum := uint64(0)
	for i, c := range b {
		sum += uint64(c) * uint64(i+1)
	}
	little(sum, 4)
	return b
}

// put tells the bytes of a message that may be.
func put(m api.Message) []byte {
	if m.Engage {
		return laid(m, 1)
	}
	return laid(m, 0)
}

// mixer tells numbers by a rule that mixes them: the same ones each time.
type mixer uint64

// number is of any size, and of either sign.
func (m *mixer) number() int64 {
	*m = *m*6364136223846793005 + 1442695040888963407
	return int64(*m) >> (*m >> 58)
}

func (m *mixer) below(n int) int {
	*m = *m*6364136223846793005 + 1442695040888963407
	return int(uint64(*m) >> 33 % uint64(n))
}

// once is yes once of n times.
func (m *mixer) once(n int) bool { return m.below(n) == 0 }

// between is low to high.
func (m *mixer) between(low, high int64) int64 {
	return low + int64(m.below(int(high-low+1)))
}

// health is one that may be, and mostly a well one.
func (m *mixer) health() api.Health {
	switch m.below(16) {
	case 0:
		return api.Health{Bad: 1 + m.below(3)}
	case 1:
		return api.Health{Bad: 3}
	case 2:
		return api.Health{Out: true, Bad: m.below(7)}
	case 3:
		return api.Health{Out: true, Good: 17 + m.below(5)}
	case 4:
		return api.Health{}
	}
	return api.Health{Good: m.below(40)}
}

// heard are the frames in which a lane was heard, mostly of late.
func (m *mixer) heard() uint32 {
	switch m.below(6) {
	case 0:
		return ones << m.below(14)
	case 1:
		return uint32(m.number())
	case 2:
		return 1 << m.below(32)
	}
	return ones
}

func (m *mixer) links() api.Links {
	l := api.Links{Own: m.below(3), Frame: uint32(m.below(2000))}
	for j := range l.Heard {
		for k := range l.Heard[j] {
			l.Heard[j][k] = m.heard()
		}
	}
	return l
}

func (m *mixer) test() api.Pretest {
	switch m.below(8) {
	case 0:
		return api.Pretest{Step: m.below(4), Frames: m.below(5)}
	case 1:
		return api.Pretest{Step: 3}
	case 2:
		return api.Pretest{Step: m.below(4), Frames: 5, Failed: true}
	}
	return passed
}

func (m *mixer) cap() api.Cap {
	c := api.Cap{Most: uint8(2 - m.below(12)/5), Frozen: m.once(4)}
	c.Level = c.Most
	if m.once(4) {
		c.Level = uint8(m.below(int(c.Most) + 1))
	}
	return c
}

func (m *mixer) count() int {
	if m.once(9) {
		return int(m.number())
	}
	return m.below(6)
}

// lane is one that may be, in any mode.
func (m *mixer) lane() api.Lane {
	l := api.Lane{
		Links: m.links(),
		Test:  m.test(),
		Cap:   m.cap(),
		State: state(uint8(m.below(7))),
		Wide:  [2]int{m.count(), m.count()},
		Cmd:   api.Command{Side: m.between(-20, 20), Sink: m.between(-20, 24), Turn: m.between(-500, 500)},
	}
	l.Frame = l.Links.Frame
	well := m.once(2)
	for i := range l.Health {
		for k := range l.Health[i] {
			if !well {
				l.Health[i][k] = m.health()
			}
		}
	}
	return l
}

// values are what the signals may say, next to where things turn.
var values = [api.Signals][]int64{
	{0, 0, 0, 100, -100, 299, 300, 301, -300, -301, 499, 500, 501, -500, -501, 900, -99999},
	{0, 0, 0, 100, -100, 299, 300, 301, -300, -301, 499, 500, 501, -500, -501, 900, 99999},
	{20000, 9000, 9000, 6097, 6096, 6095, 3000, 1525, 1524, 1523, 900, 301, 300, 299, 50, 0, -100},
	{0, 0, 40, -40, 1999, 2000, 2001, -2000, 89000, -89000},
}

// wrong makes a word one of those by which a source does not say what the others do.
func (m *mixer) wrong(w uint32, signal, source int, value int64) uint32 {
	switch m.below(7) {
	case 0:
		return 0
	case 1:
		return port.Broken(w)
	case 2:
		return port.Failed(w)
	case 3:
		return word(signal, (source+1)%3, value)
	case 4:
		return word((signal+1)%4, source, 0)
	case 5:
		return uint32(m.number())
	}
	kind, _ := dict.Of(signal)
	return word(signal, source, max(kind.Low, value-kind.Apart-m.between(-1, 1)))
}

// crew does nothing half of the time, else anything.
func (m *mixer) crew() uint8 {
	switch m.below(4) {
	case 0:
		return 1 << m.below(4)
	case 1:
		return uint8(m.number())
	}
	return 0
}

func (m *mixer) input() api.Input {
	x := api.Input{Crew: m.crew(), Units: 15, Wheel: m.once(8)}
	if m.once(4) {
		x.Units = uint8(m.number())
	}
	wrongs := 24 >> m.below(5)
	for i := range x.Words {
		value := values[i][m.below(len(values[i]))]
		for k := range x.Words[i] {
			x.Words[i][k] = word(i, k, value)
			if m.below(24) < wrongs/4 {
				x.Words[i][k] = m.wrong(x.Words[i][k], i, k, value)
			}
		}
	}
	for j := range x.Dead {
		x.Dead[j] = m.once(2)
		for k := range x.Lost[j] {
			x.Lost[j][k] = m.once(2)
		}
	}
	return x
}

// message is of any lane and a frame, or one beside it.
func (m *mixer) message(frame uint32) api.Message {
	if m.once(6) {
		frame += uint32(m.below(3)) - 1
	}
	told := func() uint8 { return uint8(m.heard()) }
	return api.Message{
		Lane: uint8(m.below(3)), Frame: frame, Heard: [3]uint8{told(), told(), told()},
		Mode: uint8(m.below(7)), Level: uint8(m.below(3)), Engage: m.once(2),
		Cmd: api.Command{Side: m.between(-20, 20), Sink: m.between(-20, 24), Turn: m.between(-500, 500)},
	}
}

// spoiled makes bytes ones that may not be read.
func (m *mixer) spoiled(b []byte) []byte {
	b = slices.Clone(b)
	switch m.below(5) {
	case 0:
		return b[:m.below(len(b))]
	case 1:
		return append(b, byte(m.number()))
	case 2:
		b[m.below(len(b))] ^= 1 << m.below(8)
		return b
	case 3:
		return nil
	}
	b[0]--
	return b
}

// came are the bytes of messages of a frame, some of which may not be read.
func (m *mixer) came(frame uint32) [][]byte {
	var l [][]byte
	for range m.below(5) {
		b := put(m.message(frame))
		if m.once(5) {
			b = m.spoiled(b)
		}
		l = append(l, b)
	}
	return l
}

// mayByWords reads the chapter's words of what may be, part by part.
func mayByWords(l api.Lane) bool {
	for _, sources := range l.Health {
		for _, h := range sources {
			if !persist.May(h) {
				return false
			}
		}
	}
	switch {
	case !check.May(l.Test), !cap.May(l.Cap), !mode.May(l.State), !out.May(l.Cmd):
		return false
	case l.Links.Own != 0 && l.Links.Own != 1 && l.Links.Own != 2:
		return false
	}
	return l.Frame == l.Links.Frame
}

// stepByWords reads the chapter's words of a frame, one behind the other.
func stepByWords(l api.Lane, x api.Input, came [][]byte) (api.Lane, api.Show) {
	if !mayByWords(l) {
		return l, api.Show{}
	}
	var read []api.Message
	for _, b := range came {
		m, errno := msg.Get(b)
		if errno == api.OK {
			read = append(read, m)
		}
	}
	off := l.State.Mode == api.Off
	approach := slices.Contains([]uint8{api.Approach, api.Flare, api.Align, api.Rollout}, l.State.Mode)
	behind := l
	behind.Frame = l.Frame + 1
	behind.Links = link.Step(l.Links, read)
	alive := link.Alive(behind.Links)
	health, v := vote.All(l.Health, port.All(x.Words), off)
	behind.Health = health
	if off {
		behind.Test = check.Next(l.Test, x.Units, x.Crew)
	}
	best := ladder.Level(equip.Of(health, alive, x.Units), behind.Test.Passed)
	behind.Cap = cap.Next(l.Cap, best, approach, band.Low(band.Of(v[api.Height], x.Wheel)))
	behind.Wide = [2]int{}
	if approach {
		behind.Wide = beam.Next(l.Wide, v)
	}
	wide := beam.Off(behind.Wide)
	behind.State = mode.Next(l.State, band.Sense(v, x.Wheel, behind.Cap.Level, x.Crew, wide))
	behind.Cmd = out.Guide(behind.State.Mode, v, l.Cmd)
	return behind, warn.Of(l.State, behind.State, behind.Cap, wide)
}

// copied is a copy of messages that shares no memory with them.
func copied(came [][]byte) [][]byte {
	l := make([][]byte, len(came))
	for i, b := range came {
		l[i] = slices.Clone(b)
	}
	return l
}

// step asks Step, whether it tells what the chapter's words say, whether what was handed in stays as it is, and whether a lane that may be may be behind it.
func step(t *testing.T, l api.Lane, x api.Input, came ...[]byte) (api.Lane, api.Show) {
	t.Helper()
	keptLane, keptInput, kept := l, x, copied(came)
	want, wantShow := stepByWords(l, x, came)
	got, show := Step(l, x, came)
	if got != want || show != wantShow {
		t.Fatalf("Step(%v, %v, %v) =\n%v, %v, not\n%v, %v", l, x, came, got, show, want, wantShow)
	}
	if l != keptLane || x != keptInput || !slices.EqualFunc(came, kept, bytes.Equal) {
		t.Fatalf("Step made %v, %v, %v of %v, %v, %v", l, x, came, keptLane, keptInput, kept)
	}
	if May(l) && !May(got) {
		t.Fatalf("Step(%v, %v, %v) = %v, which may not be", l, x, came, got)
	}
	return got, show
}

// wantMay asks May, and whether what was handed in stays as it is.
func wantMay(t *testing.T, l api.Lane, want bool) {
	t.Helper()
	kept := l
	if got := May(l); got != want {
		t.Fatalf("May(%v) = %v", l, got)
	}
	if l != kept {
		t.Fatalf("May made %v of %v", l, kept)
	}
}

// wantTell asks Tell, whether its bytes are those of a message, and whether what was handed in stays as it is.
func wantTell(t *testing.T, l api.Lane, want api.Message) {
	t.Helper()
	kept := l
	got := Tell(l)
	if !bytes.Equal(got, put(want)) {
		t.Fatalf("Tell(%v) = %v, not %v", l, got, put(want))
	}
	if m, errno := msg.Get(got); m != want || errno != api.OK {
		t.Fatalf("Tell(%v): Get = %v, %d, not %v", l, m, errno, want)
	}
	if l != kept {
		t.Fatalf("Tell made %v of %v", l, kept)
	}
}

// The chapter's table of examples.
func TestExamples(t *testing.T) {
	if _, errno := New(3); errno != api.ErrArg {
		t.Errorf("New(3): %d", errno)
	}
	l, errno := New(1)
	if errno != api.OK || l.State.Mode != 0 || l.Cap.Level != 0 {
		t.Errorf("New(1) = %v, %d", l, errno)
	}
	if b := Tell(l); len(b) != 40 {
		t.Errorf("Tell(New(1)): %d bytes", len(b))
	}
	behind, show := step(t, l, high(0))
	if show.Level != 0 || behind.Test != (api.Pretest{Step: 1}) {
		t.Errorf("Step = %v, %v", behind, show)
	}
}

// P26.1: the numbers of api by which the tests below count.
func TestNumbers(t *testing.T) {
	if modes := [7]int{api.Off, api.Armed, api.Approach, api.Flare, api.Align, api.Rollout, api.Around}; modes != [7]int{0, 1, 2, 3, 4, 5, 6} {
		t.Errorf("the modes are %v", modes)
	}
	if crew := [4]int{api.CrewArm, api.CrewToga, api.CrewOff, api.CrewReset}; crew != [4]int{1, 2, 4, 8} {
		t.Errorf("the crew does %v", crew)
	}
	if n := [5]int{api.Persist, api.Again, api.Silence, api.Window, api.Lanes}; n != [5]int{4, 20, 3, 8, 3} {
		t.Errorf("the limits are %v", n)
	}
}

// P26.1: a new lane is all zero but its links, may be, and is in the mode Off.
func TestNew(t *testing.T) {
	for own := range 3 {
		want := api.Lane{Links: api.Links{Own: own, Heard: [3][3]uint32{{ones, ones, ones}, {ones, ones, ones}, {ones, ones, ones}}}}
		l, errno := New(own)
		if l != want || errno != api.OK {
			t.Errorf("New(%d) = %v, %d", own, l, errno)
		}
		wantMay(t, l, true)
		wantTell(t, l, api.Message{Lane: uint8(own), Frame: 1, Heard: [3]uint8{255, 255, 255}})
	}
}

// P26.1: ErrArg, and a zero lane, of numbers that no lane has.
func TestNewOfNone(t *testing.T) {
	all := slices.Clone(noLanes)
	for n := -300; n <= 300; n++ {
		if n < 0 || n > 2 {
			all = append(all, n)
		}
	}
	for _, own := range all {
		if l, errno := New(own); l != (api.Lane{}) || errno != api.ErrArg {
			t.Errorf("New(%d) = %v, %d", own, l, errno)
		}
	}
}

// change makes something of a lane another one.
type change func(*api.Lane)

// badHealths are healths that may not be.
var badHealths = []api.Health{
	{Bad: -1}, {Good: -1}, {Bad: 4}, {Bad: 5}, {Bad: api.MaxCount}, {Bad: 1, Good: 1}, {Bad: 3, Good: 20}, {Out: true, Bad: 4, Good: 1},
	{Out: true, Bad: -1}, {Out: true, Good: -1}, {Out: true, Bad: api.MaxCount + 1}, {Good: api.MaxCount + 1}, {Out: true, Good: api.MaxCount + 1},
	{Bad: math.MinInt}, {Good: math.MinInt}, {Out: true, Bad: math.MaxInt}, {Good: math.MaxInt},
}

// goodHealths are healths that may be.
var goodHealths = []api.Health{
	{}, {Bad: 1}, {Bad: 3}, {Good: 1}, {Good: 19}, {Good: 20}, {Good: api.MaxCount}, {Out: true}, {Out: true, Bad: 4}, {Out: true, Bad: 1},
	{Out: true, Bad: api.MaxCount}, {Out: true, Good: 19}, {Out: true, Good: 20}, {Out: true, Good: api.MaxCount},
}

var badTests = []api.Pretest{
	{Step: -1}, {Step: 4}, {Step: 5}, {Step: 5, Passed: true}, {Step: 3, Passed: true}, {Passed: true}, {Step: 4, Frames: 1, Passed: true},
	{Frames: -1}, {Frames: 5}, {Frames: 6}, {Frames: 6, Failed: true}, {Frames: 4, Failed: true}, {Failed: true}, {Step: 4, Passed: true, Failed: true},
	{Step: 4, Frames: 5, Failed: true}, {Step: math.MinInt}, {Step: math.MaxInt}, {Frames: math.MinInt}, {Frames: math.MaxInt},
}

var badCaps = []api.Cap{
	{Level: 1}, {Level: 2}, {Level: 2, Most: 1}, {Most: 3}, {Level: 3, Most: 3}, {Level: 2, Most: 3}, {Level: 3, Most: 2}, {Most: 255}, {Level: 255, Most: 255}, {Level: 255},
	{Level: 1, Frozen: true}, {Level: 2, Frozen: true, Most: 1}, {Level: 3, Frozen: true, Most: 3}, {Frozen: true, Most: 3}, {Level: 2, Frozen: true, Most: 4},
}

var badStates = []api.State{
	{Mode: 0, Toga: true}, {Mode: 1, Toga: true}, {Mode: 2}, {Mode: 3}, {Mode: 4}, {Mode: 5, Toga: true}, {Mode: 6, Toga: true},
	{Mode: 7}, {Mode: 7, Toga: true}, {Mode: 8}, {Mode: 128}, {Mode: 255}, {Mode: 255, Toga: true},
}

var badCommands = []api.Command{
	{Side: 21}, {Side: -21}, {Sink: 25}, {Sink: -21}, {Turn: 501}, {Turn: -501}, {Side: 99}, {Side: 256}, {Sink: -256}, {Turn: 1 << 32},
	{Side: math.MinInt64}, {Side: math.MaxInt64}, {Sink: math.MinInt64}, {Sink: math.MaxInt64}, {Turn: math.MinInt64}, {Turn: math.MaxInt64},
	{Side: 20, Sink: 24, Turn: 501}, {Side: -20, Sink: -21, Turn: -500}, {Side: -21, Sink: 24, Turn: 500},
}

// hindrances are changes each of which makes any lane one that may not be.
func hindrances() []change {
	var all []change
	for _, h := range badHealths {
		for i := range api.Signals {
			for k := range api.Sources {
				all = append(all, func(l *api.Lane) { l.Health[i][k] = h })
			}
		}
	}
	for _, test := range badTests {
		all = append(all, func(l *api.Lane) { l.Test = test })
	}
	for _, c := range badCaps {
		all = append(all, func(l *api.Lane) { l.Cap = c })
	}
	for _, s := range badStates {
		all = append(all, func(l *api.Lane) { l.State = s })
	}
	for _, c := range badCommands {
		all = append(all, func(l *api.Lane) { l.Cmd = c })
	}
	for _, own := range noLanes {
		all = append(all, func(l *api.Lane) { l.Links.Own = own })
	}
	for _, n := range []uint32{1, 2, 1 << 7, 1 << 8, 1 << 16, 1 << 31, ones - 1, ones} {
		all = append(all, func(l *api.Lane) { l.Frame += n }, func(l *api.Lane) { l.Links.Frame += n })
	}
	return all
}

// liberties are changes that hinder nothing.
func liberties() []change {
	var all []change
	for _, h := range goodHealths {
		for i := range api.Signals {
			for k := range api.Sources {
				all = append(all, func(l *api.Lane) { l.Health[i][k] = h })
			}
		}
	}
	for step := range 4 {
		for frames := range 6 {
			all = append(all, func(l *api.Lane) { l.Test = api.Pretest{Step: step, Frames: frames, Failed: frames == 5} })
		}
	}
	for _, c := range caps() {
		all = append(all, func(l *api.Lane) { l.Cap = c })
	}
	for mode := range uint8(7) {
		all = append(all, func(l *api.Lane) { l.State = state(mode) })
	}
	for _, c := range []api.Command{{}, {Side: 20}, {Side: -20}, {Sink: 24}, {Sink: -20}, {Turn: 500}, {Turn: -500}, {Side: 20, Sink: 24, Turn: 500}, {Side: -20, Sink: -20, Turn: -500}} {
		all = append(all, func(l *api.Lane) { l.Cmd = c })
	}
	for own := range 3 {
		all = append(all, func(l *api.Lane) { l.Links.Own = own })
	}
	for _, n := range []uint32{0, 1, 255, 256, 1 << 16, api.MaxFrames, api.MaxFrames + 1, 1 << 31, 1<<31 + 1, ones - 1} {
		all = append(all, func(l *api.Lane) { l.Frame, l.Links.Frame = n, n })
	}
	for _, n := range []int{-1, 0, 1, 3, 4, 5, api.MaxCount, api.MaxCount + 1, math.MinInt, math.MaxInt} {
		all = append(all, func(l *api.Lane) { l.Wide[0] = n }, func(l *api.Lane) { l.Wide[1] = n }, func(l *api.Lane) { l.Wide = [2]int{n, n} })
	}
	for _, n := range []uint32{0, 1, 8, 16, 1 << 11, 1 << 12, 1 << 31, ones} {
		for j := range 3 {
			for k := range 3 {
				all = append(all, func(l *api.Lane) { l.Links.Heard[j][k] = n })
			}
		}
	}
	return all
}

// caps are all that may be.
func caps() []api.Cap {
	var all []api.Cap
	for most := range uint8(3) {
		for level := range most + 1 {
			all = append(all, api.Cap{Level: level, Most: most}, api.Cap{Level: level, Frozen: true, Most: most})
		}
	}
	return all
}

// P26.1: May is no where one part may not be, in each mode and of each lane; and then nothing happens, nothing is shown and nothing told.
func TestMayNot(t *testing.T) {
	for n, hinder := range hindrances() {
		for mode := range uint8(7) {
			l := unlike((n+int(mode))%3, mode)
			wantMay(t, l, true)
			hinder(&l)
			wantMay(t, l, false)
			behind, show := step(t, l, high(15), put(api.Message{Frame: 41}))
			if behind != l || show != (api.Show{}) {
				t.Fatalf("Step(%v) = %v, %v", l, behind, show)
			}
			if b := Tell(l); len(b) != 0 {
				t.Fatalf("Tell(%v) = %v", l, b)
			}
		}
	}
}

// P26.1: the same where two parts and three may not be at once, whatever the others are.
func TestMayNotOfMany(t *testing.T) {
	m := mixer(1)
	all, free := hindrances(), liberties()
	for range 6000 {
		l := m.lane()
		free[m.below(len(free))](&l)
		l.Frame = l.Links.Frame
		for range 2 + m.below(2) {
			all[m.below(len(all))](&l)
		}
		if mayByWords(l) {
			continue // The second one took back the first one: Frame and the links' moved alike.
		}
		wantMay(t, l, false)
		if behind, show := step(t, l, m.input(), m.came(41)...); behind != l || show != (api.Show{}) || len(Tell(l)) != 0 {
			t.Fatalf("Step(%v) = %v, %v", l, behind, show)
		}
	}
}

// P26.1: whatever may be hinders nothing: each part's own ends, the counts, what was heard, and how many frames there were.
func TestMay(t *testing.T) {
	for n, free := range liberties() {
		for mode := range uint8(7) {
			l := unlike((n+int(mode))%3, mode)
			free(&l)
			wantMay(t, l, true)
			if behind, _ := step(t, l, high(0)); behind.Frame != l.Frame+1 || behind == l {
				t.Fatalf("Step(%v) = %v", l, behind)
			}
			if len(Tell(l)) != 40 {
				t.Fatalf("Tell(%v) = %v", l, Tell(l))
			}
		}
	}
	wantMay(t, at(ready(0), ones), true)
}

// P26.1: May of many lanes of which any part may be, or may not.
func TestMayMixed(t *testing.T) {
	m := mixer(2)
	all, free := hindrances(), liberties()
	many := 0
	for range 20000 {
		l := m.lane()
		wantMay(t, l, true)
		for range m.below(4) {
			free[m.below(len(free))](&l)
		}
		if m.once(3) {
			all[m.below(len(all))](&l)
		}
		if mayByWords(l) {
			many++
		}
		wantMay(t, l, mayByWords(l))
	}
	if many < 5000 || many > 15000 {
		t.Errorf("of %d of 20000 May is yes", many)
	}
}

// P26.1: Tell is the message of the frame to come, field by field, in every mode.
func TestTell(t *testing.T) {
	cmds := []api.Command{{}, {Side: 20, Sink: 24, Turn: 500}, {Side: -20, Sink: -20, Turn: -500}, {Side: -1, Sink: 18, Turn: 256}, {Turn: -257}}
	engaged := [7]bool{false, false, true, true, true, true, true}
	heard := [3][3]uint8{{0xff, 0x60, 0xf0}, {0xa4, 0xff, 0x76}, {0xce, 0xff, 0xff}}
	for mode := range uint8(7) {
		for own := range 3 {
			for _, c := range caps() {
				for _, cmd := range cmds {
					l := unlike(own, mode)
					l.Cap, l.Cmd = c, cmd
					wantTell(t, l, api.Message{Lane: uint8(own), Frame: 41, Heard: heard[own], Mode: mode, Level: c.Level, Engage: engaged[mode], Cmd: cmd})
				}
			}
		}
	}
}

// P26.1: what Tell tells hangs on nothing else: neither on the health, nor the test, nor the counts.
func TestTellMixed(t *testing.T) {
	m := mixer(4)
	for range 5000 {
		l := m.lane()
		own := l.Links.Own
		want := api.Message{Lane: uint8(own), Frame: l.Frame + 1, Mode: l.State.Mode, Level: l.Cap.Level, Engage: l.State.Mode > 1, Cmd: l.Cmd}
		for k := range 3 {
			want.Heard[k] = uint8(l.Links.Heard[own][k] & 255)
		}
		want.Heard[own] = 255
		wantTell(t, l, want)
	}
}

// P26.1: what a lane tells is what the others may read in the next frame.
func TestTellIsHeard(t *testing.T) {
	a, b := ready(2), ready(2)
	b.Links.Own = 0
	a, b = unheard(a, 0, 8), unheard(b, 1, 8)
	nextA, _ := step(t, a, high(0), Tell(b))
	nextB, _ := step(t, b, high(0), Tell(a))
	if nextA.Links.Heard[1][0] != 0xfffffe01 || nextB.Links.Heard[0][1] != 0xfffffe01 {
		t.Errorf("%x, %x", nextA.Links, nextB.Links)
	}
}
