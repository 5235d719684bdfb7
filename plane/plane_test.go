package plane

import (
	"math"
	"math/big"
	"sync"
	"testing"

	"flarepath/api"
)

// mixer tells numbers by a rule that mixes them: the same ones each time.
type mixer uint64

// number is of any size, and of either sign.
func (m *mixer) number() int64 {
	*m = *m*6364136223846793005 + 1442695040888963407
	return int64(*m) >> (*m >> 58)
}

func (m *mixer) below(n int) int {
	return int(uint64(m.number()) % uint64(n))
}

// once tells yes once in n times.
func (m *mixer) once(n int) bool { return m.below(n) == 0 }

func (m *mixer) between(low, high int64) int64 {
	return low + int64(m.below(int(high-low+1)))
}

// ends are the numbers next to both ends of int64.
func ends() []int64 {
	return []int64{math.MinInt64, math.MinInt64 + 1, math.MinInt64 + 2, math.MaxInt64 - 2, math.MaxInt64 - 1, math.MaxInt64}
}

// beside tells each number, with those beside it, and the same on the other side of 0.
func beside(numbers ...int64) []int64 {
	var all []int64
	for _, n := range numbers {
		all = append(all, n-1, n, n+1, -n-1, -n, -n+1)
	}
	return all
}

// number is one without ends.
func number(n int64) *big.Int { return big.NewInt(n) }

// stopped tells a number without ends as one that stops at its ends.
func stopped(n *big.Int) int64 {
	switch {
	case n.Cmp(number(math.MaxInt64)) > 0:
		return math.MaxInt64
	case n.Cmp(number(math.MinInt64)) < 0:
		return math.MinInt64
	}
	return n.Int64()
}

// sum is what num.Add promises, by numbers without ends.
func sum(a, b int64) int64 { return stopped(new(big.Int).Add(number(a), number(b))) }

// difference is what num.Sub promises, by numbers without ends.
func difference(a, b int64) int64 { return stopped(new(big.Int).Sub(number(a), number(b))) }

// bounded tells n, not below low and not above high.
func bounded(n, low, high int64) int64 {
	if n < low {
		return low
	}
	if n > high {
		return high
	}
	return n
}

// wrongBound is how wrong a source of a signal may be.
func wrongBound(signal int) int64 {
	if signal == api.Drift {
		return 500
	}
	return 30
}

// calmByWords brings what the air does within the chapter's bounds.
func calmByWords(g api.Gust) api.Gust {
	calm := api.Gust{
		Along: bounded(g.Along, -20, 20),
		Side:  bounded(g.Side, -2, 2),
		Up:    bounded(g.Up, -1, 1),
		Turn:  bounded(g.Turn, -50, 50),
	}
	for signal := 0; signal < 4; signal++ {
		for source := 0; source < 3; source++ {
			most := wrongBound(signal)
			calm.Wrong[signal][source] = bounded(g.Wrong[signal][source], -most, most)
		}
	}
	return calm
}

// beamByWords is an X by 20, towards 0, by numbers without ends.
func beamByWords(x int64) int64 {
	return new(big.Int).Quo(number(x), number(20)).Int64()
}

// leastSaid and mostSaid are what a word of each signal holds.
var leastSaid = [4]int64{-100000, -100000, -1000, -90000}
var mostSaid = [4]int64{100000, 100000, 200000, 90000}

// saysByWords is what each source says, by the chapter's words.
func saysByWords(p api.Plane, g api.Gust) [4][3]int64 {
	is := [4]int64{p.Y, difference(p.H, beamByWords(p.X)), p.H, p.Turn}
	calm := calmByWords(g)
	var says [4][3]int64
	for signal := range says {
		for source := range says[signal] {
			says[signal][source] = bounded(sum(is[signal], calm.Wrong[signal][source]), leastSaid[signal], mostSaid[signal])
		}
	}
	return says
}

// wantCalm asks Calm, which leaves what it was handed as it was, and changes nothing of what is calm.
func wantCalm(t *testing.T, g, want api.Gust) {
	t.Helper()
	handed := g
	got := Calm(handed)
	if got != want {
		t.Fatalf("Calm(%v) = %v, not %v", g, got, want)
	}
	if handed != g {
		t.Fatalf("Calm(%v) left %v", g, handed)
	}
	if again := Calm(got); again != got {
		t.Fatalf("Calm(%v) = %v, of what is calm", got, again)
	}
}

// wantSays asks Says, which leaves what it was handed as it was.
func wantSays(t *testing.T, p api.Plane, g api.Gust, want [4][3]int64) {
	t.Helper()
	handed, air := p, g
	if got := Says(handed, air); got != want {
		t.Fatalf("Says(%v, %v) = %v, not %v", p, g, got, want)
	}
	if handed != p || air != g {
		t.Fatalf("Says(%v, %v) left %v, %v", p, g, handed, air)
	}
}

// anyGust tells what the air may do: calm or not, at its ends or anywhere.
func anyGust(m *mixer) api.Gust {
	g := api.Gust{Along: anyPart(m, 20), Side: anyPart(m, 2), Up: anyPart(m, 1), Turn: anyPart(m, 50)}
	for signal := range g.Wrong {
		for source := range g.Wrong[signal] {
			g.Wrong[signal][source] = anyPart(m, wrongBound(signal))
		}
	}
	return g
}

// anyPart tells a part of the air: often about its bound, or at the ends.
func anyPart(m *mixer, bound int64) int64 {
	switch m.below(6) {
	case 0:
		return 0
	case 1:
		all := beside(bound)
		return all[m.below(len(all))]
	case 2:
		all := ends()
		return all[m.below(len(all))]
	case 3:
		return m.number()
	}
	return m.between(-bound, bound)
}

// anyNumber tells a number of an aeroplane or a command: small, of any size, or next to the ends.
func anyNumber(m *mixer) int64 {
	switch m.below(4) {
	case 0:
		return m.between(-60, 60)
	case 1:
		return m.between(-250000, 250000)
	case 2:
		all := ends()
		return all[m.below(len(all))]
	}
	return m.number()
}

func anyPlane(m *mixer) api.Plane {
	p := api.Plane{X: anyNumber(m), Y: anyNumber(m), H: anyNumber(m), Turn: anyNumber(m)}
	if m.once(3) {
		p.Down, p.Sank = true, anyNumber(m)
	}
	return p
}

func anyCommand(m *mixer) api.Command {
	return api.Command{Side: anyNumber(m), Sink: anyNumber(m), Turn: anyNumber(m)}
}

// TestExamples holds the chapter's examples.
func TestExamples(t *testing.T) {
	p := Step(api.Plane{X: 1000, Y: 5, H: 30}, api.Command{Side: -2, Sink: 18}, api.Gust{})
	if p.X != 640 || p.Y != 3 || p.H != 12 || p.Turn != 0 || p.Down || p.Sank != 0 {
		t.Errorf("in the air: %v", p)
	}
	p = Step(api.Plane{H: 10}, api.Command{Sink: 18}, api.Gust{Up: 9})
	if p.H != 0 || !p.Down || p.Sank != 19 {
		t.Errorf("at the touchdown: %v", p)
	}
	if h := Beam(399); h != 19 {
		t.Errorf("Beam(399) = %d", h)
	}
	says := Says(api.Plane{Y: 5, H: 30, X: 400}, api.Gust{})
	if says[api.Loc][0] != 5 || says[api.Glide][0] != 10 {
		t.Errorf("Says = %v", says)
	}
}

// TestNumbers holds the signals' numbers against those that the tests go by.
func TestNumbers(t *testing.T) {
	if api.Loc != 0 || api.Glide != 1 || api.Height != 2 || api.Drift != 3 || api.Signals != 4 || api.Sources != 3 {
		t.Error("the signals, or the sources, are numbered otherwise")
	}
}

// part is a part of the air by itself: how to reach it, and its bound.
type part struct {
	name  string
	bound int64
	of    func(*api.Gust) *int64
}

// airParts are all sixteen of them.
func airParts() []part {
	all := []part{
		{"along", 20, func(g *api.Gust) *int64 { return &g.Along }},
		{"aside", 2, func(g *api.Gust) *int64 { return &g.Side }},
		{"up", 1, func(g *api.Gust) *int64 { return &g.Up }},
		{"around", 50, func(g *api.Gust) *int64 { return &g.Turn }},
	}
	names := [4]string{"loc", "glide", "height", "drift"}
	bounds := [4]int64{30, 30, 30, 500}
	for signal := range names {
		for source := range 3 {
			all = append(all, part{names[signal], bounds[signal], func(g *api.Gust) *int64 { return &g.Wrong[signal][source] }})
		}
	}
	return all
}

// P28.1: each part by itself, about its own bound and the others', on both sides, and at the ends.
func TestCalmPartByPart(t *testing.T) {
	numbers := append(ends(), beside(0, 1, 2, 20, 30, 50, 500, 1<<31, 1<<32, 1<<62)...)
	for _, part := range airParts() {
		for _, n := range numbers {
			var g, want api.Gust
			*part.of(&g) = n
			*part.of(&want) = bounded(n, -part.bound, part.bound)
			wantCalm(t, g, want)
		}
		for _, c := range [][2]int64{
			{part.bound - 1, part.bound - 1}, {part.bound, part.bound}, {part.bound + 1, part.bound},
			{-part.bound + 1, -part.bound + 1}, {-part.bound, -part.bound}, {-part.bound - 1, -part.bound},
			{math.MinInt64, -part.bound}, {math.MaxInt64, part.bound},
		} {
			var g api.Gust
			*part.of(&g) = c[0]
			calm := Calm(g)
			if got := *part.of(&calm); got != c[1] {
				t.Errorf("%s: Calm of %d is %d, not %d", part.name, c[0], got, c[1])
			}
		}
	}
}

// P28.1: two parts at once count each for itself.
func TestCalmTwoAtOnce(t *testing.T) {
	all := airParts()
	for i, first := range all {
		for _, second := range all[i+1:] {
			for _, sign := range []int64{1, -1} {
				var g, want api.Gust
				*first.of(&g), *second.of(&g) = first.bound+7, sign*(second.bound+9)
				*first.of(&want), *second.of(&want) = first.bound, sign*second.bound
				wantCalm(t, g, want)
			}
		}
	}
}

// P28.1: all parts at once, at their bounds, beyond them, at the ends, and anyhow.
func TestCalmAllAtOnce(t *testing.T) {
	for _, beyond := range []int64{0, 1, 1000, math.MaxInt64 - 500} {
		for _, sign := range []int64{1, -1} {
			var g, want api.Gust
			for _, part := range airParts() {
				*part.of(&g), *part.of(&want) = sign*(part.bound+beyond), sign*part.bound
			}
			wantCalm(t, g, want)
		}
	}
	m := mixer(28)
	for range 30000 {
		g := anyGust(&m)
		wantCalm(t, g, calmByWords(g))
	}
}

// P28.1: the beam is an X by 20, towards 0, on both sides.
func TestBeam(t *testing.T) {
	for _, c := range [][2]int64{
		{0, 0}, {1, 0}, {-1, 0}, {19, 0}, {-19, 0}, {20, 1}, {-20, -1}, {21, 1}, {-21, -1}, {39, 1}, {-39, -1}, {40, 2}, {-40, -2},
		{399, 19}, {400, 20}, {401, 20}, {-399, -19}, {-400, -20}, {-401, -20}, {400000, 20000}, {180000, 9000},
		{math.MaxInt64, 461168601842738790}, {math.MinInt64, -461168601842738790},
	} {
		if h := Beam(c[0]); h != c[1] {
			t.Errorf("Beam(%d) = %d, not %d", c[0], h, c[1])
		}
	}
	numbers := ends()
	for n := int64(0); n <= 4000; n += 20 {
		numbers = append(numbers, beside(n, n*1000, n<<40, math.MaxInt64/20*20-n)...)
	}
	m := mixer(20)
	for range 20000 {
		numbers = append(numbers, m.number())
	}
	for _, x := range numbers {
		if h := Beam(x); h != beamByWords(x) {
			t.Errorf("Beam(%d) = %d, not %d", x, h, beamByWords(x))
		}
	}
}

// P28.1: each signal says its own number, of the aeroplane alone.
func TestSaysTheAeroplane(t *testing.T) {
	for _, c := range []struct {
		p    api.Plane
		want [4]int64
	}{
		{api.Plane{}, [4]int64{0, 0, 0, 0}},
		{api.Plane{Y: 7}, [4]int64{7, 0, 0, 0}},
		{api.Plane{H: 7}, [4]int64{0, 7, 7, 0}},
		{api.Plane{X: 140}, [4]int64{0, -7, 0, 0}},
		{api.Plane{X: -140}, [4]int64{0, 7, 0, 0}},
		{api.Plane{Turn: 7}, [4]int64{0, 0, 0, 7}},
		{api.Plane{Down: true, Sank: 7}, [4]int64{0, 0, 0, 0}},
		{api.Plane{X: 400000, Y: -90, H: 20003, Turn: -1000}, [4]int64{-90, 3, 20003, -1000}},
		{api.Plane{X: 399999, Y: 90, H: 19999, Turn: 1000}, [4]int64{90, 0, 19999, 1000}},
		{api.Plane{X: -399, Y: 1, H: 0, Turn: 2, Down: true, Sank: 3}, [4]int64{1, 19, 0, 2}},
	} {
		var want [4][3]int64
		for signal, n := range c.want {
			want[signal] = [3]int64{n, n, n}
		}
		wantSays(t, c.p, api.Gust{}, want)
	}
}

// P28.1: what is wrong of a source, within its bounds, is said by that one alone.
func TestSaysWhatIsWrong(t *testing.T) {
	p := api.Plane{X: 100000, Y: 40, H: 6000, Turn: -300}
	numbers := append(ends(), beside(0, 1, 29, 30, 31, 499, 500, 501, 1<<40)...)
	for signal := range 4 {
		for source := range 3 {
			for _, wrong := range numbers {
				var g api.Gust
				g.Wrong[signal][source] = wrong
				want := [4][3]int64{{40, 40, 40}, {1000, 1000, 1000}, {6000, 6000, 6000}, {-300, -300, -300}}
				want[signal][source] += bounded(wrong, -wrongBound(signal), wrongBound(signal))
				wantSays(t, p, g, want)
			}
		}
	}
	var g api.Gust
	g.Wrong = [4][3]int64{{1, -2, 3}, {-4, 5, -6}, {30, -31, 7}, {500, -501, 31}}
	wantSays(t, p, g, [4][3]int64{{41, 38, 43}, {996, 1005, 994}, {6030, 5970, 6007}, {200, -800, -269}})
}

// P28.1: what is said is brought within what a word of that signal holds, with what is wrong of it.
func TestSaysWithinAWord(t *testing.T) {
	planes := [4]func(int64) api.Plane{
		func(n int64) api.Plane { return api.Plane{Y: n} },
		func(n int64) api.Plane { return api.Plane{H: n} },
		func(n int64) api.Plane { return api.Plane{H: n} },
		func(n int64) api.Plane { return api.Plane{Turn: n} },
	}
	for signal := range 4 {
		for _, bound := range []int64{leastSaid[signal], mostSaid[signal]} {
			for _, off := range []int64{-501, -31, -30, -2, -1, 0, 1, 2, 30, 31, 501} {
				p := planes[signal](bound + off)
				got := Says(p, api.Gust{})[signal][1]
				if want := bounded(bound+off, leastSaid[signal], mostSaid[signal]); got != want {
					t.Errorf("signal %d at %d says %d, not %d", signal, bound+off, got, want)
				}
				for _, wrong := range []int64{-600, -30, -1, 0, 1, 30, 600} {
					var g api.Gust
					g.Wrong[signal] = [3]int64{wrong, -wrong, 0}
					wantSays(t, p, g, saysByWords(p, g))
				}
			}
		}
	}
	wantSays(t, api.Plane{Y: 100001, H: -1001, Turn: 90001}, api.Gust{}, [4][3]int64{{100000, 100000, 100000}, {-1001, -1001, -1001}, {-1000, -1000, -1000}, {90000, 90000, 90000}})
	wantSays(t, api.Plane{Y: -100001, H: 200001, Turn: -90001}, api.Gust{}, [4][3]int64{{-100000, -100000, -100000}, {100000, 100000, 100000}, {200000, 200000, 200000}, {-90000, -90000, -90000}})
}

// P28.1: what is wrong comes to what is so ahead of the word's ends: beyond them a small one changes nothing, at them it does.
func TestSaysAddsAheadOfTheEnds(t *testing.T) {
	var g api.Gust
	g.Wrong[api.Loc] = [3]int64{-30, 0, 30}
	g.Wrong[api.Height] = [3]int64{-30, 0, 30}
	g.Wrong[api.Drift] = [3]int64{-500, 0, 500}
	wantSays(t, api.Plane{Y: 100020, H: -1020, X: -20400, Turn: 90400}, g, [4][3]int64{{99990, 100000, 100000}, {0, 0, 0}, {-1000, -1000, -990}, {89900, 90000, 90000}})
	wantSays(t, api.Plane{Y: math.MaxInt64, H: math.MaxInt64, X: math.MaxInt64, Turn: math.MaxInt64}, g, [4][3]int64{{100000, 100000, 100000}, {100000, 100000, 100000}, {200000, 200000, 200000}, {90000, 90000, 90000}})
	wantSays(t, api.Plane{Y: math.MinInt64, H: math.MinInt64, X: math.MinInt64, Turn: math.MinInt64}, g, [4][3]int64{{-100000, -100000, -100000}, {-100000, -100000, -100000}, {-1000, -1000, -1000}, {-90000, -90000, -90000}})
}

// P28.1: Glide is the height less the beam's, with both anywhere, at the ends too.
func TestSaysGlide(t *testing.T) {
	numbers := append(ends(), beside(0, 19, 20, 399, 400, 2000, 2000000, 2000020, 100000, 200000, 1<<40, 1<<62, 461168601842738790)...)
	for _, x := range numbers {
		for _, h := range numbers {
			p := api.Plane{X: x, H: h}
			want := bounded(difference(h, beamByWords(x)), -100000, 100000)
			for source, got := range Says(p, api.Gust{})[api.Glide] {
				if got != want {
					t.Fatalf("Says(%v): source %d of Glide says %d, not %d", p, source, got, want)
				}
			}
		}
	}
}

// P28.1: nothing of the air but Wrong counts for what sources say, nor do Down and Sank.
func TestSaysAsksForWrongAlone(t *testing.T) {
	m := mixer(3)
	for range 5000 {
		p, g := anyPlane(&m), anyGust(&m)
		want := Says(p, g)
		other := anyGust(&m)
		other.Wrong = g.Wrong
		wantSays(t, p, other, want)
		p.Down, p.Sank = !p.Down, anyNumber(&m)
		wantSays(t, p, g, want)
	}
}

// P28.1: what sources say, of anything.
func TestSaysAnything(t *testing.T) {
	m := mixer(81)
	for range 20000 {
		p, g := anyPlane(&m), anyGust(&m)
		wantSays(t, p, g, saysByWords(p, g))
	}
}

// asked is all that can be asked, of one aeroplane, command and air.
type asked struct {
	p api.Plane
	c api.Command
	g api.Gust
}

// told is what was answered.
type told struct {
	p    api.Plane
	says [4][3]int64
	beam int64
	g    api.Gust
}

func (a asked) tell() told {
	return told{Step(a.p, a.c, a.g), Says(a.p, a.g), Beam(a.p.X), Calm(a.g)}
}

// Rule 8: the same answer whenever it is asked again: forwards, backwards, out of order, and by several at once.
func TestAskedAgain(t *testing.T) {
	m := mixer(99)
	var all []asked
	var first []told
	for range 700 {
		a := asked{anyPlane(&m), anyCommand(&m), anyGust(&m)}
		all, first = append(all, a), append(first, a.tell())
	}
	check := func(i int) {
		if again := all[i].tell(); again != first[i] {
			t.Errorf("%v: %v, then %v", all[i], first[i], again)
		}
	}
	for i := len(all) - 1; i >= 0; i-- {
		check(i)
	}
	for range 1000 {
		check(m.below(len(all)))
	}
	var group sync.WaitGroup
	for start := range 4 {
		group.Add(1)
		go func() {
			defer group.Done()
			for i := range all {
				check((i*7 + start*100) % len(all))
			}
		}()
	}
	group.Wait()
}
