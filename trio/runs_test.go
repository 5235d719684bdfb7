package trio

import (
	"runtime"
	"slices"
	"sync"
	"testing"

	"flarepath/api"
	"flarepath/lanes"
	"flarepath/port"
)

// lasts are for how many frames what is wrong lasts: next to those at which something turns.
var lasts = []int{1, 2, 3, 4, 5, 6, 10, 11, 12, 13, 15, 16, 17, 19, 20, 21, 22, 40}

// until is the frame in which something ends that is wrong.
type until struct {
	source [api.Signals][api.Sources]int
	kind   [api.Signals][api.Sources]int
	lost   [3][3]int
	unit   [api.Units]int
	beam   [2]int
	dead   int
}

// flight is a run of a trio in which things go wrong and are well again.
type flight struct {
	mixer
	*Trio
	until
	// a and b are never dead, and hear each other often enough, whatever happens to c.
	a, b, c int
	// calm is how seldom something goes wrong.
	calm   int
	height int64
	missed [3][3]int
}

// pairs are the lanes told by two of them, and the third one.
var pairs = [][3]int{{0, 1, 2}, {1, 0, 2}, {0, 2, 1}, {2, 0, 1}, {1, 2, 0}, {2, 1, 0}}

func begin(seed int) *flight {
	p := pairs[seed%len(pairs)]
	return &flight{mixer: mixer(seed), Trio: New(), a: p[0], b: p[1], c: p[2], calm: 12 + seed*3}
}

// goWrong begins what goes wrong in the frame n.
func (f *flight) goWrong(n int) {
	pick := func() int { return n + lasts[f.below(len(lasts))] }
	if f.once(f.calm) {
		i, k := f.below(4), f.below(3)
		f.source[i][k], f.kind[i][k] = pick(), f.below(4)
	}
	if f.once(f.calm / 3) {
		f.lost[f.below(3)][f.below(3)] = pick()
	}
	if f.once(f.calm) {
		end, to := pick(), f.below(3)
		f.lost[f.c][to], f.lost[to][f.c] = end, end
	}
	if f.once(f.calm) {
		f.until.dead = pick()
	}
	if f.once(2 * f.calm) {
		f.unit[f.below(4)] = pick()
	}
	if f.once(2 * f.calm) {
		f.beam[f.below(2)] = pick()
	}
}

// crewDoes tells what the crew does, mostly what lets the flight go on.
func (f *flight) crewDoes(mode uint8) uint8 {
	if f.once(80) {
		return uint8(f.number())
	}
	switch {
	case mode == api.Off && f.each[f.a].Test.Failed:
		return api.CrewReset
	case mode == api.Off && f.once(3):
		return api.CrewArm
	case mode == api.Rollout && f.once(12), mode == api.Around && f.once(20):
		return api.CrewOff
	case mode == api.Around && f.once(10):
		return api.CrewReset
	case mode >= api.Approach && mode <= api.Align && f.once(90):
		return api.CrewToga
	}
	return 0
}

// fly tells the frame n.
func (f *flight) fly(n int) api.Input {
	f.goWrong(n)
	mode := f.each[f.a].State.Mode
	switch {
	case mode == api.Off, mode == api.Armed:
		f.height = f.between(6500, 9000)
	case mode == api.Around:
		f.height = min(f.height+300, 9000)
	default:
		f.height = max(f.height-f.between(20, 200), 0)
	}
	x := says(f.crewDoes(mode), f.beams(n, api.Loc), f.beams(n, api.Glide), f.height, f.between(-90, 90))
	x.Wheel = f.height == 0
	for i := range x.Words {
		for k, end := range f.source[i] {
			if n < end {
				x.Words[i][k] = spoiled(x.Words[i][k], i, k, f.kind[i][k])
			}
		}
	}
	for unit, end := range f.unit {
		if n < end {
			x.Units &^= 1 << unit
		}
	}
	x.Dead[f.c] = n < f.until.dead
	x.Lost = f.losses(n)
	return x
}

// beams tells what a beam says: mostly that it is near, sometimes that it is wide.
func (f *flight) beams(n, signal int) int64 {
	if n < f.beam[signal] {
		return f.between(501, 900)
	}
	return f.between(-90, 90)
}

func spoiled(w uint32, signal, source, kind int) uint32 {
	switch kind {
	case 0:
		return 0
	case 1:
		return port.Broken(w)
	case 2:
		return port.Failed(w)
	}
	return word(signal, source, 7777)
}

// losses tells which messages are lost in the frame n: between a and b no more than three one behind the other.
func (f *flight) losses(n int) [3]marks {
	var lost [3]marks
	for from := range 3 {
		for to := range 3 {
			lost[from][to] = n < f.lost[from][to] || f.once(20)
			if from != f.c && to != f.c && f.missed[from][to] >= 3 {
				lost[from][to] = false
			}
			f.missed[from][to]++
			if !lost[from][to] {
				f.missed[from][to] = 0
			}
		}
	}
	return lost
}

// wantAlike asks whether two lanes show the same, and take the same.
func wantAlike(t *testing.T, x *Trio, out api.Output, a, b int) {
	t.Helper()
	if out.Show[a] != out.Show[b] || x.Apart(a, b) != 0 || x.took[a] != x.took[b] || !out.Alive[a] || !out.Alive[b] {
		t.Fatalf("the lanes %d and %d are not alike: %v, of %v:\n%v\n%v", a, b, out, x.took, x.each[a], x.each[b])
	}
}

// wantBetween asks whether what goes to the surfaces lies between the commands of the lanes that are not dead: their own, and those that they took.
func wantBetween(t *testing.T, x *Trio, out api.Output) {
	t.Helper()
	var all [2][3][]int64
	for n, is := range out.Alive {
		if !is {
			continue
		}
		for i, c := range []api.Command{x.each[n].Cmd, x.took[n]} {
			for k, number := range []int64{c.Side, c.Sink, c.Turn} {
				all[i][k] = append(all[i][k], number)
			}
		}
	}
	if !out.Is {
		if len(all[0][0]) != 0 || out.Cmd != (api.Command{}) {
			t.Fatalf("commands of none: %v", out)
		}
		return
	}
	for _, numbers := range all {
		for k, number := range []int64{out.Cmd.Side, out.Cmd.Sink, out.Cmd.Turn} {
			if number < slices.Min(numbers[k]) || number > slices.Max(numbers[k]) {
				t.Fatalf("%v is not between %v", out.Cmd, numbers)
			}
		}
	}
}

// P27.2: long flights from New on, in which sources, units and beams go wrong, messages are lost, and a lane dies and comes back: the other two show the same, and take the same; what goes to the surfaces lies between; each frame is what the words say.
func TestFlights(t *testing.T) {
	var modes, levels, warnings [8]int
	deaths, ways := 0, 0
	for seed := range 60 {
		f := begin(seed)
		m := like(f.Trio)
		for n := 1; n <= 260; n++ {
			x := f.fly(n)
			out := wantModel(t, f.Trio, m, x)
			wantAlike(t, f.Trio, out, f.a, f.b)
			wantBetween(t, f.Trio, out)
			show := out.Show[f.a]
			modes[show.Mode]++
			levels[show.Level]++
			warnings[show.Warn]++
			if x.Dead[f.c] {
				deaths++
			} else if out.Show[f.c] != show && f.Apart(f.a, f.c) != 0 {
				ways++
			}
		}
	}
	if slices.Min(modes[:7]) < 100 || slices.Min(levels[:3]) < 100 || warnings[0] < 100 || warnings[1] < 10 || warnings[3] < 10 || warnings[4] < 100 || deaths < 1000 || ways < 100 {
		t.Errorf("not all came: %v, %v, %v, %d, %d", modes, levels, warnings, deaths, ways)
	}
}

// P27.2: any frames, with lanes of any kind that die and come back, all of them too: what goes to the surfaces lies between, and each frame is what the words say.
func TestBetween(t *testing.T) {
	m := mixer(7)
	for range 60 {
		x := New()
		y := like(x)
		for n := range 150 {
			in := m.input()
			if n < 6 {
				in.Words, in.Units, in.Wheel, in.Crew = high(0).Words, 15, false, api.CrewArm
			}
			wantBetween(t, x, wantModel(t, x, y, in))
		}
	}
	for range 2000 {
		x := m.trio()
		wantBetween(t, x, step(t, x, m.input()))
	}
}

// pattern is how messages are lost: so many one behind the other, then one comes.
type pattern struct {
	long     int
	one, two bool // what a tells b; what b tells a
}

func (p pattern) lose(x api.Input, n, a, b int) api.Input {
	x.Lost[a][b] = p.one && n%(p.long+1) != 0
	x.Lost[b][a] = p.two && n%(p.long+1) != p.long/2
	return x
}

// third is what happens to the third lane: for how many frames it is dead, and lives, by turns; of whom it hears nothing, who hears nothing of it.
type third struct {
	dies, lives int
	deaf, mute  int
}

func (k third) hinder(x api.Input, n, a, b, c int) api.Input {
	x.Dead[c] = n%(k.dies+k.lives) >= k.lives
	for i, other := range []int{a, b} {
		x.Lost[other][c] = k.deaf>>i&1 != 0
		x.Lost[c][other] = k.mute>>i&1 != 0
	}
	return x
}

// P27.2: of what two lanes tell each other 1 to 5 messages are lost one behind the other, one way and both ways, while the third one dies and comes back, hears or not, is heard or not: up to three the two are alike in each frame; of any number the words hold.
func TestLosses(t *testing.T) {
	patterns := []pattern{{0, false, false}}
	for long := 1; long <= 5; long++ {
		patterns = append(patterns, pattern{long, true, false}, pattern{long, false, true}, pattern{long, true, true})
	}
	turns := [][2]int{{0, 1}, {12, 5}, {13, 4}, {16, 1}, {11, 3}, {21, 14}, {1, 40}, {40, 2}, {7, 7}, {150, 10}}
	for n, p := range patterns {
		for i, turn := range turns {
			for k := (n*3 + i) % 8; k < 16; k += 8 {
				pair := pairs[(n+i+k/8)%len(pairs)]
				wantPattern(t, p, third{turn[0], turn[1], k & 3, k >> 2}, pair)
			}
		}
	}
}

// wantPattern runs 150 frames of a pattern of losses.
func wantPattern(t *testing.T, p pattern, k third, pair [3]int) {
	t.Helper()
	a, b, c := pair[0], pair[1], pair[2]
	x := New()
	m := like(x)
	for n := 1; n <= 150; n++ {
		in := says(0, 20, -30, 9000, 10)
		if n == 40 || n == 110 {
			in.Crew = api.CrewArm
		}
		if n >= 60 && n < 90 {
			in = says(0, 20, -30, 9000-int64(n-60)*300, 10)
		}
		if n == 95 {
			in.Crew = api.CrewOff
		}
		out := wantModel(t, x, m, k.hinder(p.lose(in, n, a, b), n, a, b, c))
		wantBetween(t, x, out)
		if p.long <= api.Silence {
			wantAlike(t, x, out, a, b)
		}
	}
}

// P27.2: told out: a lane that was dead is back, and one of the others alone hears it. Up to three lost messages one behind the other the second one knows of it in time; of more it knows of it later.
func TestInTime(t *testing.T) {
	for _, pair := range pairs {
		a, b, c := pair[0], pair[1], pair[2]
		for long := range 8 {
			x := New()
			steps(t, x, 6, high(0))
			steps(t, x, 20, dead(high(0), c))
			for n := range 20 {
				in := lost(high(0), c, b)
				in.Lost[a][b] = n >= 1 && n <= long
				out := step(t, x, in)
				want := [2]uint8{api.Land2, api.Land2}
				if n >= 4 {
					want[0] = api.Land3
				}
				if n >= 4 && n > long {
					want[1] = api.Land3
				}
				if got := [2]uint8{out.Show[a].Level, out.Show[b].Level}; got != want {
					t.Fatalf("%v, %d lost, frame %d: the levels are %v, not %v", pair, long, n, got, want)
				}
				if long <= api.Silence {
					wantAlike(t, x, out, a, b)
				}
			}
		}
	}
}

// record is a flight that was flown: what it was told, and what came of it.
type record struct {
	told  []api.Input
	came  []api.Output
	lanes [][3]api.Lane
	took  []three
}

// recorded flies a flight.
func recorded(t *testing.T, seed, frames int) record {
	t.Helper()
	f := begin(seed)
	var r record
	for n := 1; n <= frames; n++ {
		x := f.fly(n)
		r.told = append(r.told, x)
		r.came = append(r.came, step(t, f.Trio, x))
		r.lanes = append(r.lanes, f.each)
		r.took = append(r.took, f.took)
	}
	return r
}

// wantFrame asks whether a trio comes to the same in the n-th frame.
func (r record) wantFrame(t *testing.T, x *Trio, n int) {
	t.Helper()
	if out, errno := x.Frame(r.told[n]); errno != api.OK || out != r.came[n] || x.each != r.lanes[n] || x.took != r.took[n] {
		t.Errorf("frame %d: %v, %d, not %v", n, out, errno, r.came[n])
	}
}

// ask asks a trio all that changes nothing, and takes a copy far away.
func ask(t *testing.T, x *Trio, m *mixer) {
	t.Helper()
	was := *x
	for n := -1; n <= 3; n++ {
		x.Lane(n)
		x.Apart(n, m.below(5)-1)
	}
	c := x.Copy()
	for range m.below(3) {
		if _, errno := c.Frame(m.input()); errno != api.OK {
			t.Errorf("Frame of a copy: %d", errno)
		}
	}
	if *x != was {
		t.Errorf("asking made %v of %v", *x, was)
	}
}

// P27.2: two trios that are told the same come to the same, frame by frame, whatever was asked in between, side by side too.
func TestAskedAgain(t *testing.T) {
	m := mixer(8)
	for seed := range 6 {
		r := recorded(t, 100+seed, 150)
		x, y := New(), New()
		for n := range r.told {
			r.wantFrame(t, x, n)
			ask(t, y, &m)
			r.wantFrame(t, y, n)
			ask(t, x, &m)
		}
		if *x != *y {
			t.Errorf("flight %d: %v, not %v", seed, *x, *y)
		}
	}
}

// P27.2: however the goroutines go: many trios at once, on one processor and on many.
func TestHoweverTheyGo(t *testing.T) {
	r := recorded(t, 31, 150)
	many := runtime.GOMAXPROCS(0)
	defer runtime.GOMAXPROCS(many)
	for _, processors := range []int{1, 2, 3, max(many, 4)} {
		runtime.GOMAXPROCS(processors)
		var group sync.WaitGroup
		for k := range 8 {
			group.Add(1)
			go func() {
				defer group.Done()
				x := New()
				for n := range r.told {
					r.wantFrame(t, x, n)
					if k&1 != 0 {
						runtime.Gosched()
					}
				}
			}()
		}
		group.Wait()
	}
}

// P27.2: a copy that is taken in any frame comes to the same as the trio, and the trio does not see what the copy is told.
func TestCopyGoesOn(t *testing.T) {
	r := recorded(t, 32, 160)
	m := mixer(9)
	x := New()
	for n := range r.told {
		if n%8 == 0 {
			c, other := x.Copy(), x.Copy()
			for k := n; k < len(r.told); k++ {
				r.wantFrame(t, c, k)
				step(t, other, m.input())
			}
			if *other == *c {
				t.Errorf("told otherwise it came to the same: %v", *c)
			}
		}
		r.wantFrame(t, x, n)
	}
}

// P27.2: what is handed in stays as it was, and an answer that is changed changes nothing of the trio, nor of a copy.
func TestSharesNothing(t *testing.T) {
	m := mixer(10)
	for range 200 {
		x, in := m.trio(), m.input()
		kept := in
		c := x.Copy()
		out, _ := x.Frame(in)
		if in != kept {
			t.Fatalf("Frame made %v of %v", in, kept)
		}
		behind, copied := *x, *c
		answered := out
		out.Show, out.Alive, out.Cmd = [3]api.Show{}, marks{}, api.Command{Side: 99}
		if *x != behind || *c != copied || out == answered {
			t.Fatalf("a changed answer made %v of %v", *x, behind)
		}
		if again, _ := c.Frame(kept); again != answered || *c != behind {
			t.Fatalf("Frame(%v) = %v, then %v", kept, answered, again)
		}
		if d := lanes.Apart(c.took[0], c.took[1]); c.Apart(0, 1) != d || c.Apart(1, 0) != d {
			t.Fatalf("Apart = %d, not %d", c.Apart(0, 1), d)
		}
	}
}
