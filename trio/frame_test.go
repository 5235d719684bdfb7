package trio

import (
	"slices"
	"testing"

	"flarepath/api"
	"flarepath/dict"
	"flarepath/lane"
	"flarepath/lanes"
	"flarepath/link"
	"flarepath/port"
)

// mixer tells numbers by a rule that mixes them: the same ones each time.
type mixer uint64

// number is of any size, and of either sign.
func (m *mixer) number() int64 {
	*m = *m*6364136223846793005 + 1442695040888963407
	return int64(*m) >> (*m >> 58)
}

func (m *mixer) below(n int) int {
	*m = *m*6364136223846793005 + 1442695040888963407
	return int(uint64(*m) >> 33 % uint64(n))
}

// once is yes once of n times.
func (m *mixer) once(n int) bool { return m.below(n) == 0 }

// between is low to high.
func (m *mixer) between(low, high int64) int64 {
	return low + int64(m.below(int(high-low+1)))
}

// values are what the signals may say, next to where things turn.
var values = [api.Signals][]int64{
	{0, 0, 0, 100, -100, 299, 300, 301, -300, -301, 499, 500, 501, -500, -501, 900, -99999},
	{0, 0, 0, 100, -100, 299, 300, 301, -300, -301, 499, 500, 501, -500, -501, 900, 99999},
	{20000, 9000, 9000, 6097, 6096, 6095, 3000, 1525, 1524, 1523, 900, 301, 300, 299, 50, 0, -100},
	{0, 0, 40, -40, 1999, 2000, 2001, -2000, 89000, -89000},
}

// wrong makes a word one of those by which a source does not say what the others do.
func (m *mixer) wrong(w uint32, signal, source int, value int64) uint32 {
	switch m.below(7) {
	case 0:
		return 0
	case 1:
		return port.Broken(w)
	case 2:
		return port.Failed(w)
	case 3:
		return word(signal, (source+1)%3, value)
	case 4:
		return word((signal+1)%4, source, 0)
	case 5:
		return uint32(m.number())
	}
	kind, _ := dict.Of(signal)
	return word(signal, source, max(kind.Low, value-kind.Apart-m.between(-1, 1)))
}

// crew does nothing half of the time, else anything.
func (m *mixer) crew() uint8 {
	switch m.below(4) {
	case 0:
		return 1 << m.below(4)
	case 1:
		return uint8(m.number())
	}
	return 0
}

// input is a frame of any kind.
func (m *mixer) input() api.Input {
	x := api.Input{Crew: m.crew(), Units: 15, Wheel: m.once(8)}
	if m.once(4) {
		x.Units = uint8(m.number())
	}
	wrongs := 6 >> m.below(4)
	for i := range x.Words {
		value := values[i][m.below(len(values[i]))]
		for k := range x.Words[i] {
			x.Words[i][k] = word(i, k, value)
			if m.below(24) < wrongs {
				x.Words[i][k] = m.wrong(x.Words[i][k], i, k, value)
			}
		}
	}
	deaths, losses := 1+m.below(6), 1+m.below(6)
	for j := range x.Dead {
		x.Dead[j] = m.once(deaths)
		for k := range x.Lost[j] {
			x.Lost[j][k] = m.once(losses)
		}
	}
	return x
}

// trio is one of which each lane was on its own for some frames, in any mode.
func (m *mixer) trio() *Trio {
	x := New()
	for n := range x.each {
		x.each[n] = aligned(n, m.command())
		x.each[n].State = state(uint8(m.below(7)))
		x.each[n].Cap.Frozen = m.once(2)
		x.each[n].Wide = [2]int{m.below(6), m.below(6)}
		x.took[n] = m.command()
		for j := range 3 {
			for k := range 3 {
				x.each[n].Links.Heard[j][k] = uint32(m.number())
			}
		}
	}
	return x
}

func (m *mixer) command() api.Command {
	return api.Command{Side: m.between(-20, 20), Sink: m.between(-20, 24), Turn: m.between(-500, 500)}
}

// state is the one that may be of a mode.
func state(mode uint8) api.State {
	return api.State{Mode: mode, Toga: mode >= 2 && mode <= 4}
}

// aligned is a lane below the alert height in the mode Align: in silence its commands stay as they are.
func aligned(own int, cmd api.Command) api.Lane {
	l, _ := lane.New(own)
	l.Test = api.Pretest{Step: 4, Passed: true}
	l.Cap = api.Cap{Level: 2, Most: 2, Frozen: true}
	l.State = state(api.Align)
	l.Cmd = cmd
	return l
}

// deaf is a frame in which each message is lost.
func deaf(x api.Input) api.Input {
	x.Lost = [3]marks{{true, true, true}, {true, true, true}, {true, true, true}}
	return x
}

// model is a trio told by the chapter's words, one lane behind the other.
type model struct {
	each [3]api.Lane
	took three
}

// hears tells whether a lane hears another one.
func hears(x api.Input, to, from int) bool {
	return to != from && !x.Dead[from] && !x.Lost[from][to]
}

// frame takes the model a frame on.
func (m *model) frame(x api.Input) api.Output {
	var out api.Output
	ahead := m.each
	for n, l := range ahead {
		out.Alive[n] = !x.Dead[n]
		if x.Dead[n] {
			m.each[n].Frame++
			m.each[n].Links = link.Step(l.Links, nil)
			continue
		}
		var came [][]byte
		for from := range 3 {
			if hears(x, n, from) {
				came = append(came, lane.Tell(ahead[from]))
			}
		}
		m.each[n], out.Show[n] = lane.Step(l, x, came)
	}
	for n := range 3 {
		if !x.Dead[n] {
			m.took[n] = m.takes(n, x)
		}
	}
	out.Cmd, out.Is = lanes.Servo(m.took, out.Alive)
	return out
}

// takes tells the middle of a lane's own commands and the others', its own in the place of those that it did not hear, each number by itself.
func (m *model) takes(own int, x api.Input) api.Command {
	all := three{m.each[own].Cmd, m.each[own].Cmd, m.each[own].Cmd}
	for k := range 3 {
		if hears(x, own, k) {
			all[k] = m.each[k].Cmd
		}
	}
	return api.Command{
		Side: middle(all[0].Side, all[1].Side, all[2].Side),
		Sink: middle(all[0].Sink, all[1].Sink, all[2].Sink),
		Turn: middle(all[0].Turn, all[1].Turn, all[2].Turn),
	}
}

func middle(n ...int64) int64 {
	slices.Sort(n)
	return n[1]
}

// wantModel asks whether a trio's frame is the model's.
func wantModel(t *testing.T, x *Trio, m *model, in api.Input) api.Output {
	t.Helper()
	was := *m
	want := m.frame(in)
	got := step(t, x, in)
	if got != want {
		t.Fatalf("of %v\nFrame(%v)\n= %v\nnot %v", was, in, got, want)
	}
	for n := range 3 {
		if l, _ := x.Lane(n); l != m.each[n] {
			t.Fatalf("of %v\nFrame(%v)\nlane %d: %v\nnot %v", was, in, n, l, m.each[n])
		}
		for k := range 3 {
			if d := x.Apart(n, k); d != lanes.Apart(m.took[n], m.took[k]) {
				t.Fatalf("of %v\nFrame(%v)\nApart(%d, %d) = %d, of %v", was, in, n, k, d, m.took)
			}
		}
	}
	return got
}

// like is the model of a trio.
func like(x *Trio) *model {
	return &model{each: x.each, took: x.took}
}

// P27.1: each of the eight ways in which lanes may be dead, and each of the 64 in which messages may be lost, with what is lost of a lane to itself or not, told by hand from what lane, lanes and link answer.
func TestDeadAndLost(t *testing.T) {
	m := mixer(3)
	for bits := range 8 * 512 {
		x := m.trio()
		in := m.input()
		in.Dead = of(bits)
		in.Lost = [3]marks{of(bits >> 3), of(bits >> 6), of(bits >> 9)}
		wantModel(t, x, like(x), in)
	}
}

// P27.1: what a lane's message is lost to itself changes nothing, since none comes to itself.
func TestLostToItself(t *testing.T) {
	m := mixer(4)
	for range 300 {
		x, in := m.trio(), m.input()
		y := x.Copy()
		other := in
		for n := range 3 {
			in.Lost[n][n] = false
			other.Lost[n][n] = true
		}
		if got, want := step(t, y, other), step(t, x, in); got != want || *x != *y {
			t.Fatalf("Frame(%v) = %v, not %v", other, got, want)
		}
	}
}

// P27.1: whom a lane heard in a frame stands in its links' lowest bits: each message that is told, and not lost, and no other one; the one way does not lose the other.
func TestWhoIsHeard(t *testing.T) {
	for bits := range 8 * 512 {
		in := high(0)
		in.Dead = of(bits)
		in.Lost = [3]marks{of(bits >> 3), of(bits >> 6), of(bits >> 9)}
		x := New()
		step(t, x, in)
		for to := range 3 {
			for from := range 3 {
				heard := to != from && !in.Dead[to] && !in.Dead[from] && !in.Lost[from][to]
				if got := x.each[to].Links.Heard[to][from]; got&1 != 0 != heard || got>>1 != 1<<31-1 {
					t.Fatalf("dead %v, lost %v: the lane %d heard %d: %x", in.Dead, in.Lost, to, from, got)
				}
			}
		}
	}
}

// P27.1: each loss alone, for one frame: that message does not come, nor what it tells of whom its lane heard in the frame ahead; all the others do, and what the lanes show and take stays.
func TestOneLoss(t *testing.T) {
	for from := range 3 {
		for to := range 3 {
			x, y := landing(t), landing(t)
			in := says(0, 60, -40, 9000, 0)
			got, want := step(t, x, lost(in, from, to)), step(t, y, in)
			if got != want || x.took != y.took {
				t.Errorf("lost %d to %d: %v, not %v", from, to, got, want)
			}
			for n := range 3 {
				heard := y.each[n].Links.Heard
				if n == to && from != to {
					heard[to][from] &^= 1
					heard[from][(from+1)%3] &^= 2
					heard[from][(from+2)%3] &^= 2
				}
				if l := x.each[n]; l.Links.Heard != heard {
					t.Errorf("lost %d to %d: the lane %d heard %x, not %x", from, to, n, l.Links.Heard, heard)
				}
			}
		}
	}
}

// P27.1: a lane tells what it knew at the end of the frame ahead, not what it knows behind this one: whom another one heard in a frame it knows a frame later.
func TestToldOfTheFrameAhead(t *testing.T) {
	x := New()
	step(t, x, lost(high(0), 2, 1)) // The lane 1 does not hear the lane 2 in the frame 1.
	for n := range 3 {
		if told := x.each[n].Links.Heard[1][2]; told&2 == 0 || told&1 != 0 {
			t.Errorf("frame 1, the lane %d, of the lane 1, of 2: %x", n, told)
		}
	}
	if told := x.each[0].Links.Heard[2][1]; told&1 != 0 || told&2 == 0 {
		t.Errorf("frame 1, the lane 0, of the lane 2, of 1: %x", told)
	}
	step(t, x, high(0))
	for _, n := range []int{0, 2} {
		if told := x.each[n].Links.Heard[1][2]; told&2 != 0 || told&1 != 0 || told&4 == 0 {
			t.Errorf("frame 2, the lane %d, of the lane 1, of 2: %x", n, told)
		}
		if told := x.each[n].Links.Heard[1][0]; told&2 == 0 {
			t.Errorf("frame 2, the lane %d, of the lane 1, of 0: %x", n, told)
		}
	}
	if told := x.each[0].Links.Heard[2][1]; told&2 == 0 {
		t.Errorf("frame 2, the lane 0, of the lane 2, of 1: %x", told)
	}
}

// P27.1: a dead lane shows nothing, and stays as it is, but for its Frame and its links, however long it is dead, whatever the others do.
func TestDeadStays(t *testing.T) {
	for bits := 1; bits < 8; bits++ {
		x := landing(t)
		was := *x
		in := says(api.CrewToga, 200, 200, 9000, 300)
		in.Dead = of(bits)
		for n := 1; n <= 40; n++ {
			out := step(t, x, in)
			for k, is := range in.Dead {
				want := was.each[k]
				want.Frame += uint32(n)
				want.Links.Frame += uint32(n)
				for j := range 3 {
					for i := range 3 {
						want.Links.Heard[j][i] <<= n
					}
				}
				if is && (x.each[k] != want || out.Show[k] != (api.Show{}) || out.Alive[k] || x.took[k] != was.took[k]) {
					t.Fatalf("dead %v, frame %d, lane %d: %v, %v\nnot %v", in.Dead, n, k, out, x.each[k], want)
				}
				if !is && (out.Show[k].Mode == api.Approach || !out.Alive[k] || x.each[k].State == was.each[k].State) {
					t.Fatalf("dead %v, frame %d, lane %d: %v, %v", in.Dead, n, k, out, x.each[k])
				}
			}
			in.Crew = 0
		}
	}
}

// P27.1: a lane that was dead goes on from where it was, and is heard again in the first frame in which it is not dead any more.
func TestComesBack(t *testing.T) {
	for k := range 3 {
		for _, long := range []int{1, 2, 3, 4, 5, 11, 12, 16, 31, 32, 33, 150} {
			x := landing(t)
			was := x.each[k]
			steps(t, x, long, dead(says(0, 80, 40, 8000, 0), k))
			asleep := x.each
			m := like(x)
			out := wantModel(t, x, m, says(0, 80, 40, 8000, 0))
			l := x.each[k]
			if !out.Alive[k] || out.Show[k].Mode != api.Approach || l.Frame != was.Frame+uint32(long)+1 || l.Health[0][0].Good != was.Health[0][0].Good+1 || l.State != was.State {
				t.Fatalf("lane %d, dead for %d: %v, %v", k, long, out, l)
			}
			want, _ := lane.Step(asleep[k], says(0, 80, 40, 8000, 0), [][]byte{lane.Tell(asleep[(k+1)%3]), lane.Tell(asleep[(k+2)%3])})
			if l != want {
				t.Fatalf("lane %d, dead for %d: %v, not %v", k, long, l, want)
			}
			for n := range 3 {
				if n == k {
					continue
				}
				if heard := x.each[n].Links.Heard[n][k]; heard&1 == 0 || heard>>1&1 != 0 || l.Links.Heard[k][n]&3 != 1 {
					t.Fatalf("lane %d, dead for %d: the lane %d heard it in %x, it that in %x", k, long, n, heard, l.Links.Heard[k][n])
				}
			}
		}
	}
}

// P27.1: what the others count of a lane that is dead, and not any more: from the 12th frame on it is not alive for them, and it is again in the fifth in which it is back.
func TestCountsForDead(t *testing.T) {
	for k := range 3 {
		for _, long := range []int{1, 3, 7, 11, 12, 13, 20} {
			x := New()
			steps(t, x, 6, high(0))
			for n := 1; n <= long+6; n++ {
				in := high(0)
				in.Dead[k] = n <= long
				out := step(t, x, in)
				want := api.Show{Level: api.Land3}
				if n >= 12 && n <= long+4 {
					want.Level = api.Land2
				}
				for own, show := range out.Show {
					if own == k && n <= long {
						want := api.Show{}
						if show != want {
							t.Fatalf("lane %d dead for %d, frame %d: it shows %v", k, long, n, show)
						}
					} else if own != k && show != want {
						t.Fatalf("lane %d dead for %d, frame %d: the lane %d shows %v, not %v", k, long, n, own, show, want)
					}
				}
			}
		}
	}
}

// own are commands of which each number has its middle in another lane.
var own = three{
	{Side: 5, Sink: -3, Turn: 400},
	{Side: 9, Sink: 24, Turn: -500},
	{Side: -20, Sink: 12, Turn: 7},
}

// holding is a trio whose lanes have these commands, behind a frame of silence too.
func holding(cmds three) *Trio {
	x := New()
	for n := range x.each {
		x.each[n] = aligned(n, cmds[n])
		x.took[n] = api.Command{Side: int64(n) + 1, Sink: int64(n) + 2, Turn: int64(n) + 3}
	}
	return x
}

// P27.1: what each lane takes, told out: all hear all, none hears any, one hears one.
func TestTakes(t *testing.T) {
	all := api.Command{Side: 5, Sink: 12, Turn: 7}
	rows := []struct {
		name string
		in   api.Input
		took three
		cmd  api.Command
	}{
		{"all", api.Input{}, three{all, all, all}, all},
		{"none heard", deaf(api.Input{}), own, all},
		{"0 deaf", lost(lost(api.Input{}, 1, 0), 2, 0), three{own[0], all, all}, all},
		{"0 unheard", lost(lost(api.Input{}, 0, 1), 0, 2), three{all, own[1], own[2]}, all},
		{"1 not to 0", lost(api.Input{}, 1, 0), three{own[0], all, all}, all},
		{"2 dead", dead(api.Input{}, 2), three{own[0], own[1], {Side: 3, Sink: 4, Turn: 5}}, api.Command{Side: 7, Sink: 10, Turn: -50}},
		{"1 dead", dead(api.Input{}, 1), three{own[0], {Side: 2, Sink: 3, Turn: 4}, own[2]}, api.Command{Side: -8, Sink: 4, Turn: 203}},
		{"0, 2 dead", dead(api.Input{}, 0, 2), three{{Side: 1, Sink: 2, Turn: 3}, own[1], {Side: 3, Sink: 4, Turn: 5}}, own[1]},
		{"all dead", dead(api.Input{}, 0, 1, 2), three{{Side: 1, Sink: 2, Turn: 3}, {Side: 2, Sink: 3, Turn: 4}, {Side: 3, Sink: 4, Turn: 5}}, api.Command{}},
	}
	for _, row := range rows {
		x := holding(own)
		out := step(t, x, row.in)
		if x.took != row.took {
			t.Errorf("%s: each took %v, not %v", row.name, x.took, row.took)
		}
		if lanes.Apart(out.Cmd, row.cmd) > 1 || out.Is != (row.name != "all dead") {
			t.Errorf("%s: the commands are %v, %t, not %v", row.name, out.Cmd, out.Is, row.cmd)
		}
		for n := range 3 {
			if x.each[n].Cmd != own[n] {
				t.Errorf("%s: the lane %d has %v of its own", row.name, n, x.each[n].Cmd)
			}
		}
	}
}

// P27.1: what each lane takes, and what goes to the surfaces, for each of the eight ways to be dead and each of the losses alone and together.
func TestTakesByWords(t *testing.T) {
	m := mixer(5)
	for bits := range 8 * 512 {
		cmds := three{m.command(), m.command(), m.command()}
		x := holding(cmds)
		was := x.took
		in := api.Input{Dead: of(bits), Lost: [3]marks{of(bits >> 3), of(bits >> 6), of(bits >> 9)}}
		out := step(t, x, in)
		for n := range 3 {
			want := was[n]
			if !in.Dead[n] {
				want = (&model{each: x.each}).takes(n, in)
			}
			if x.took[n] != want || x.each[n].Cmd != cmds[n] {
				t.Fatalf("%v, dead %v, lost %v: the lane %d took %v, not %v", cmds, in.Dead, in.Lost, n, x.took[n], want)
			}
		}
		if cmd, is := lanes.Servo(x.took, out.Alive); out.Cmd != cmd || out.Is != is {
			t.Fatalf("%v, dead %v: the commands are %v, %t, not %v, %t", x.took, in.Dead, out.Cmd, out.Is, cmd, is)
		}
		if in.Dead == (marks{true, true, true}) && (out != api.Output{}) {
			t.Fatalf("all dead: %v", out)
		}
	}
}

// P27.1: the others' commands are those that they have behind this frame, not those that they told.
func TestTakesWhatIsBehindTheFrame(t *testing.T) {
	x := New()
	steps(t, x, 9, high(api.CrewArm))
	step(t, x, dead(high(api.CrewToga), 2))
	// The lanes 0 and 1 sank by 18, and go around now: their Sink goes from 4 to -10 in this frame. The lane 2 knows nothing of it.
	out := step(t, x, high(0))
	for n, sink := range []int64{-10, -10, 18} {
		if x.each[n].Cmd.Sink != sink || x.took[n].Sink != -10 {
			t.Errorf("the lane %d took %v, and has %v", n, x.took[n], x.each[n].Cmd)
		}
	}
	if out.Cmd.Sink != -10 {
		t.Errorf("the commands are %v", out.Cmd)
	}
}

// P27.1: a dead lane's commands do not come, and what it took last does not count.
func TestDeadDoesNotCount(t *testing.T) {
	for k := range 3 {
		x := holding(own)
		y := holding(own)
		y.each[k].Cmd = api.Command{Side: 20, Sink: 24, Turn: 500}
		y.took[k] = api.Command{Side: -20, Sink: -20, Turn: -500}
		in := dead(api.Input{}, k)
		for range 20 {
			if got, want := step(t, y, in), step(t, x, in); got != want {
				t.Fatalf("the dead lane %d counts: %v, not %v", k, got, want)
			}
			for n := range 3 {
				if n != k && x.took[n] != y.took[n] {
					t.Fatalf("the lane %d took %v, not %v", n, y.took[n], x.took[n])
				}
			}
		}
	}
}

// P27.1: the crew, the words, the units and the wheels come to each lane that is not dead, and each shows what lane.Step tells.
func TestComesToEach(t *testing.T) {
	for _, x := range []api.Input{
		high(api.CrewOff), high(api.CrewToga), high(api.CrewReset), says(0, 501, 0, 9000, 0), says(0, 0, -700, 9000, 90), says(0, 0, 0, 300, 0), {}, {Wheel: true, Units: 15}, {Crew: 255, Units: 255},
	} {
		for bits := range 8 {
			y := landing(t)
			in := x
			in.Dead = of(bits)
			for range 6 {
				want := like(y)
				out := wantModel(t, y, want, in)
				for n, is := range in.Dead {
					if is != (out.Show[n] == api.Show{}) && out.Show[n].Mode != api.Off {
						t.Fatalf("dead %v: the lane %d shows %v", in.Dead, n, out.Show[n])
					}
				}
			}
		}
	}
}

// P27.1: many frames of any kind, of lanes in any mode, told by hand from what lane, lanes and link answer.
func TestFrames(t *testing.T) {
	m := mixer(6)
	for range 400 {
		x := m.trio()
		y := like(x)
		for range 20 {
			wantModel(t, x, y, m.input())
		}
	}
}
