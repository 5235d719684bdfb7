package out

import (
	"math"
	"slices"
	"testing"

	"flarepath/api"
	"flarepath/side"
	"flarepath/sink"
)

const (
	least    = math.MinInt64
	greatest = math.MaxInt64
)

// signals are Loc, Glide, Height and Drift, in this order.
type signals = [api.Signals]api.Voted

// ranges are the ends of Side, Sink and Turn, and by how much each goes at most.
var ranges = [3]struct{ low, high, step int64 }{{-20, 20, 40}, {-20, 24, 14}, {-500, 500, 1000}}

// at is a signal that is there.
func at(n int64) api.Voted { return api.Voted{Is: true, Value: n, Of: 3} }

// none is a signal that is not there, whatever its Value says.
func none(n int64) api.Voted { return api.Voted{Value: n, Of: 2} }

// command has Side, Sink and Turn, in this order.
func command(n [3]int64) api.Command {
	return api.Command{Side: n[0], Sink: n[1], Turn: n[2]}
}

func split(c api.Command) [3]int64 {
	return [3]int64{c.Side, c.Sink, c.Turn}
}

// with puts n into one of a command's numbers.
func with(c api.Command, place int, n int64) api.Command {
	all := split(c)
	all[place] = n
	return command(all)
}

// mixer tells numbers by a rule that mixes them: the same ones each time.
type mixer uint64

// number is of any size, and of either sign.
func (m *mixer) number() int64 {
	*m = *m*6364136223846793005 + 1442695040888963407
	return int64(*m) >> (*m >> 58)
}

func (m *mixer) below(n int) int {
	return int(uint64(m.number()) % uint64(n))
}

// of picks one of many numbers.
func (m *mixer) of(l []int64) int64 {
	return l[m.below(len(l))]
}

// command is one whose numbers may be, are just beyond, far off, or of any size.
func (m *mixer) command() api.Command {
	var c [3]int64
	for place := range c {
		c[place] = m.of(edges(place))
		switch m.below(4) {
		case 0:
			c[place] = m.number()
		case 1, 2:
			r := ranges[place]
			c[place] = r.low + int64(m.below(int(r.high-r.low+1)))
		}
	}
	return command(c)
}

// signal is there three times of four.
func (m *mixer) signal(l []int64) api.Voted {
	v := api.Voted{Is: m.below(4) != 0, Value: m.of(l), Of: m.below(4)}
	if m.below(8) == 0 {
		v.Value = m.number()
	}
	return v
}

func (m *mixer) signals() signals {
	return signals{m.signal(locs()), m.signal(glides()), m.signal(heights()), m.signal(drifts())}
}

// ends are the numbers next to both ends of int64.
func ends() []int64 {
	return []int64{least, least + 1, least + 2, greatest - 2, greatest - 1, greatest}
}

// around tells each number, with those beside it, and the same on the other side of 0.
func around(numbers ...int64) []int64 {
	var all []int64
	for _, n := range numbers {
		all = append(all, n-1, n, n+1, -n-1, -n, -n+1)
	}
	return all
}

// edges are what a number of a command may be tried with: its ends, those beside them, far ones, and the ends of int64.
func edges(place int) []int64 {
	r := ranges[place]
	all := append(ends(), around(0, r.low, r.high, 1<<8, 1<<31, 1<<32, 1<<62)...)
	all = append(all, 9, -9, 99, -99, 9999, -9999, r.low+r.high)
	slices.Sort(all)
	return slices.Compact(all)
}

// fewEdges are the ends, those beside them, 0, and the ends of int64.
func fewEdges(place int) []int64 {
	r := ranges[place]
	return []int64{least, r.low - 1, r.low, r.low + 1, 0, r.high - 1, r.high, r.high + 1, greatest}
}

// others are what the other two of a command's numbers may be, and may not be.
func others() []api.Command {
	return []api.Command{
		{}, {Side: 20, Sink: 24, Turn: 500}, {Side: -20, Sink: -20, Turn: -500}, {Side: -7, Sink: 9, Turn: 300},
		{Side: 21, Sink: 25, Turn: 501}, {Side: -21, Sink: -21, Turn: -501}, {Side: least, Sink: greatest, Turn: least}, {Side: greatest, Sink: least, Turn: greatest},
	}
}

// locs, glides, heights and drifts are what the signals may say: what they steer to differs from one to the next, then nothing more, and the ends.
func locs() []int64 {
	return append(ends(), around(0, 7, 40, 41, 96, 100, 160, 320, 900, 1<<17, 1<<32)...)
}

func glides() []int64 {
	return append(ends(), around(0, 8, 20, 32, 48, 56, 100, 900, 1<<17, 1<<32)...)
}

func heights() []int64 {
	return append(ends(), around(0, 50, 100, 300, 762, 900, 1500, 1524, 6096, 9000, 30000, 1<<17, 1<<32)...)
}

func drifts() []int64 {
	return append(ends(), around(0, 4, 9, 40, 1000, 2000, 2004, 4000, 1<<17, 1<<32)...)
}

// lasts are what may be ahead of a command: some that may be, and some that may not.
func lasts() []api.Command {
	return append(others(), api.Command{Sink: 18}, api.Command{Side: 20, Sink: -20, Turn: -500}, api.Command{Side: -99, Sink: 99, Turn: 9999},
		api.Command{Side: 5, Sink: 5, Turn: -5}, api.Command{Side: -10, Sink: 3, Turn: 499})
}

// mayByWords reads the chapter's words number by number.
func mayByWords(c api.Command) bool {
	switch {
	case c.Side > 20 || c.Side < -20:
		return false
	case c.Sink > 24 || c.Sink < -20:
		return false
	}
	return c.Turn <= 500 && c.Turn >= -500
}

// held tells the nearest number that is low to high.
func held(n, low, high int64) int64 {
	return max(min(n, high), low)
}

// limitByWords reads the chapter's words: within, both are so small that no difference runs over.
func limitByWords(last, want api.Command) api.Command {
	from, to := split(last), split(want)
	for place, r := range ranges {
		begin := held(from[place], r.low, r.high)
		way := held(to[place], r.low, r.high) - begin
		from[place] = begin + held(way, -r.step, r.step)
	}
	return command(from)
}

// gainByWords reads the words of the gains by the height.
func gainByWords(h api.Voted) int64 {
	n := h.Value
	switch {
	case !h.Is || n >= 30000:
		return 16
	case n >= 6096:
		return 12 + (n-6096)*4/(30000-6096)
	case n >= 1524:
		return 8 + (n-1524)*4/(6096-1524)
	case n >= 0:
		return 4 + n*4/1524
	}
	return 4
}

// against tells the negative of a number by a gain: by how far it is from 0, and on which side.
func against(n, gain, most int64) int64 {
	far := uint64(n)
	if n < 0 {
		far = -far
	}
	share := int64(min(far/uint64(gain), uint64(most)))
	if n > 0 {
		return -share
	}
	return share
}

// wantByWords reads the words of what goes along and around, up and down, mode by mode.
func wantByWords(mode uint8, v signals, last api.Command) api.Command {
	var c api.Command
	if mode >= 2 && mode <= 5 {
		gain, most := gainByWords(v[2]), int64(20)
		if mode == 5 {
			gain, most = 4, 10
		}
		c.Side = held(last.Side, -20, 20)
		if v[0].Is {
			c.Side = against(v[0].Value, gain, most)
		}
	}
	c.Sink = held(last.Sink, -20, 24)
	switch {
	case mode == 6:
		c.Sink = -20
	case mode < 2 || mode > 4:
		c.Sink = 0
	case mode == 2 && v[1].Is:
		c.Sink = 18 + held(v[1].Value/8, -6, 6)
	case mode != 2 && v[2].Is:
		c.Sink = 3 + held(v[2].Value/100, 0, 15)
	}
	if mode == 4 || mode == 5 {
		c.Turn = held(last.Turn, -500, 500)
		if v[3].Is {
			c.Turn = against(v[3].Value, 4, 500)
		}
	}
	return c
}

func guideByWords(mode uint8, v signals, last api.Command) api.Command {
	return limitByWords(last, wantByWords(mode, v, last))
}

// wantMay asks May, and whether what was handed in stays as it is.
func wantMay(t *testing.T, c api.Command, want bool) {
	t.Helper()
	kept := c
	if got := May(c); got != want {
		t.Fatalf("May(%v) = %v", c, got)
	}
	if c != kept {
		t.Fatalf("May made %v of %v", c, kept)
	}
}

// wantLimit asks Limit, whether what was handed in stays as it is, and whether what it tells may be.
func wantLimit(t *testing.T, last, want, next api.Command) {
	t.Helper()
	keptLast, keptWant := last, want
	got := Limit(last, want)
	if got != next {
		t.Fatalf("Limit(%v, %v) = %v, not %v", last, want, got, next)
	}
	if last != keptLast || want != keptWant {
		t.Fatalf("Limit made %v and %v of %v and %v", last, want, keptLast, keptWant)
	}
	if !May(got) || !mayByWords(got) {
		t.Fatalf("Limit(%v, %v) = %v, which may not be", last, want, got)
	}
}

// wantGuide asks Guide, whether what was handed in stays as it is, and whether what it tells may be.
func wantGuide(t *testing.T, mode uint8, v signals, last, next api.Command) {
	t.Helper()
	keptV, keptLast := v, last
	got := Guide(mode, v, last)
	if got != next {
		t.Fatalf("Guide(%d, %v, %v) = %v, not %v", mode, v, last, got, next)
	}
	if v != keptV || last != keptLast {
		t.Fatalf("Guide made %v and %v of %v and %v", v, last, keptV, keptLast)
	}
	if !May(got) || !mayByWords(got) {
		t.Fatalf("Guide(%d, %v, %v) = %v, which may not be", mode, v, last, got)
	}
}

// The chapter's table of examples.
func TestExamples(t *testing.T) {
	wantMay(t, api.Command{Side: 20, Sink: 24, Turn: -500}, true)
	wantMay(t, api.Command{Side: 21}, false)
	wantLimit(t, api.Command{}, api.Command{Side: 99, Sink: 99, Turn: 99}, api.Command{Side: 20, Sink: 14, Turn: 99})
	wantLimit(t, api.Command{Sink: 20}, api.Command{Sink: -20}, api.Command{Sink: 6})
	v := signals{api.Loc: at(96), api.Glide: at(0), api.Height: at(762), api.Drift: at(0)}
	wantGuide(t, api.Approach, v, api.Command{Sink: 18}, api.Command{Side: -16, Sink: 18})
}

// P25.1: the numbers of the modes and of the signals, by which the tests below count.
func TestNumbers(t *testing.T) {
	modes := [7]int{api.Off, api.Armed, api.Approach, api.Flare, api.Align, api.Rollout, api.Around}
	if modes != [7]int{0, 1, 2, 3, 4, 5, 6} {
		t.Errorf("the modes are %v", modes)
	}
	if all := [4]int{api.Loc, api.Glide, api.Height, api.Drift}; all != [4]int{0, 1, 2, 3} {
		t.Errorf("the signals are %v", all)
	}
}

// beyond are numbers by place, and whether a command may have them.
var beyond = [3][]struct {
	n  int64
	is bool
}{
	{
		{0, true}, {1, true}, {-1, true}, {19, true}, {-19, true}, {20, true}, {-20, true}, {21, false}, {-21, false}, {22, false}, {-22, false},
		{24, false}, {-24, false}, {40, false}, {-40, false}, {256, false}, {-256, false}, {1 << 32, false}, {-1 << 32, false},
		{least, false}, {least + 1, false}, {greatest - 1, false}, {greatest, false},
	},
	{
		{0, true}, {1, true}, {-1, true}, {14, true}, {-14, true}, {19, true}, {-19, true}, {20, true}, {-20, true}, {21, true}, {-21, false},
		{22, true}, {-22, false}, {23, true}, {-23, false}, {24, true}, {-24, false}, {25, false}, {-25, false}, {256, false}, {-256, false},
		{1 << 32, false}, {-1 << 32, false}, {least, false}, {least + 1, false}, {greatest - 1, false}, {greatest, false},
	},
	{
		{0, true}, {1, true}, {-1, true}, {25, true}, {-25, true}, {256, true}, {-256, true}, {499, true}, {-499, true}, {500, true}, {-500, true},
		{501, false}, {-501, false}, {502, false}, {-502, false}, {1000, false}, {-1000, false}, {1 << 16, false}, {-1 << 16, false},
		{1 << 32, false}, {-1 << 32, false}, {least, false}, {least + 1, false}, {greatest - 1, false}, {greatest, false},
	},
}

// P25.1: May of each number by itself: the other two being what they may be, it hangs on that one; one of them being beyond, it is no.
func TestMayOfEach(t *testing.T) {
	for place, all := range beyond {
		for _, example := range all {
			for _, c := range others() {
				theirs := mayByWords(with(c, place, 0))
				wantMay(t, with(c, place, example.n), theirs && example.is)
			}
			wantMay(t, with(api.Command{}, place, example.n), example.is)
		}
	}
}

// P25.1: two numbers and three beyond at once: no; none of them: yes.
func TestMayOfAll(t *testing.T) {
	for _, a := range beyond[0] {
		for _, b := range beyond[1] {
			for _, c := range beyond[2] {
				wantMay(t, api.Command{Side: a.n, Sink: b.n, Turn: c.n}, a.is && b.is && c.is)
			}
		}
	}
}

// P25.1: May of all numbers from well below to well above what may be, one by one.
func TestMayOneByOne(t *testing.T) {
	for place, r := range ranges {
		for n := r.low - 300; n <= r.high+300; n++ {
			wantMay(t, with(api.Command{Side: 3, Sink: 3, Turn: 3}, place, n), n >= r.low && n <= r.high)
		}
	}
}

// ways are from where to where each number goes, and where it comes to.
var ways = [3][]struct{ last, want, next int64 }{
	{
		{0, 0, 0}, {0, 1, 1}, {1, 0, 0}, {0, -1, -1}, {-1, 0, 0}, {7, 7, 7}, {-7, -7, -7}, {20, 20, 20}, {-20, -20, -20},
		{-20, 20, 20}, {20, -20, -20}, {-20, 19, 19}, {20, -19, -19}, {-19, 20, 20}, {19, -20, -20}, {-19, 19, 19}, {19, -19, -19},
		{0, 20, 20}, {0, -20, -20}, {0, 21, 20}, {0, -21, -20}, {21, 0, 0}, {-21, 0, 0}, {21, 21, 20}, {-21, -21, -20},
		{21, -21, -20}, {-21, 21, 20}, {99, 98, 20}, {98, 99, 20}, {-99, -98, -20}, {99, 7, 7}, {-99, 7, 7}, {7, 99, 20}, {7, -99, -20},
		{least, greatest, 20}, {greatest, least, -20}, {least, least, -20}, {greatest, greatest, 20}, {least, 0, 0}, {greatest, 0, 0},
		{0, least, -20}, {0, greatest, 20}, {least + 1, greatest - 1, 20}, {greatest - 1, least + 1, -20}, {-20, greatest, 20}, {20, least, -20},
	},
	{
		{0, 0, 0}, {0, 1, 1}, {1, 0, 0}, {0, -1, -1}, {-1, 0, 0}, {9, 9, 9}, {-9, -9, -9}, {24, 24, 24}, {-20, -20, -20},
		{0, 13, 13}, {0, 14, 14}, {0, 15, 14}, {0, -13, -13}, {0, -14, -14}, {0, -15, -14}, {13, 0, 0}, {14, 0, 0}, {15, 0, 1},
		{-13, 0, 0}, {-14, 0, 0}, {-15, 0, -1}, {5, 18, 18}, {5, 19, 19}, {5, 20, 19}, {18, 5, 5}, {18, 4, 4}, {18, 3, 4}, {18, 0, 4},
		{-7, 6, 6}, {-7, 7, 7}, {-7, 8, 7}, {7, -6, -6}, {7, -7, -7}, {7, -8, -7}, {10, 24, 24}, {9, 24, 23}, {11, 24, 24}, {-6, -20, -20}, {-5, -20, -19}, {-7, -20, -20},
		{24, 10, 10}, {24, 9, 10}, {24, 11, 11}, {-20, -6, -6}, {-20, -5, -6}, {-20, -7, -7}, {-20, 24, -6}, {24, -20, 10}, {20, -20, 6}, {18, -20, 4}, {3, -20, -11},
		{25, 24, 24}, {25, 10, 10}, {25, 9, 10}, {-21, -20, -20}, {-21, -6, -6}, {-21, -5, -6}, {10, 25, 24}, {9, 25, 23}, {-6, -21, -20}, {-5, -21, -19},
		{25, 26, 24}, {26, 25, 24}, {-21, -22, -20}, {-22, -21, -20}, {-21, 25, -6}, {25, -21, 10}, {99, 0, 10}, {-99, 0, -6}, {0, 99, 14}, {0, -99, -14},
		{least, greatest, -6}, {greatest, least, 10}, {least, least, -20}, {greatest, greatest, 24}, {least, 0, -6}, {greatest, 0, 10},
		{0, least, -14}, {0, greatest, 14}, {least + 1, greatest - 1, -6}, {greatest - 1, least + 1, 10}, {-20, 1 << 62, -6}, {24, -1 << 62, 10},
	},
	{
		{0, 0, 0}, {0, 1, 1}, {1, 0, 0}, {0, -1, -1}, {-1, 0, 0}, {77, 77, 77}, {-77, -77, -77}, {500, 500, 500}, {-500, -500, -500},
		{-500, 500, 500}, {500, -500, -500}, {-500, 499, 499}, {500, -499, -499}, {-499, 500, 500}, {499, -500, -500}, {-499, 499, 499}, {499, -499, -499},
		{0, 500, 500}, {0, -500, -500}, {0, 501, 500}, {0, -501, -500}, {501, 0, 0}, {-501, 0, 0}, {501, 501, 500}, {-501, -501, -500},
		{501, -501, -500}, {-501, 501, 500}, {999, 998, 500}, {-999, -998, -500}, {9999, 77, 77}, {-9999, 77, 77}, {77, 9999, 500}, {77, -9999, -500},
		{least, greatest, 500}, {greatest, least, -500}, {least, least, -500}, {greatest, greatest, 500}, {least, 0, 0}, {greatest, 0, 0},
		{0, least, -500}, {0, greatest, 500}, {least + 1, greatest - 1, 500}, {greatest - 1, least + 1, -500}, {-500, greatest, 500}, {500, least, -500},
	},
}

// P25.1: Limit of each number by itself: whatever the other two are, and towards whatever, they change nothing of it, and it nothing of them.
func TestLimitOfEach(t *testing.T) {
	for place, all := range ways {
		for _, example := range all {
			for _, last := range others() {
				for _, want := range others() {
					theirs := split(limitByWords(last, want))
					theirs[place] = example.next
					wantLimit(t, with(last, place, example.last), with(want, place, example.want), command(theirs))
				}
			}
		}
	}
}

// P25.1: Limit of three numbers at once, each with its own way.
func TestLimitOfAll(t *testing.T) {
	for _, a := range ways[0] {
		for _, b := range ways[1] {
			for _, c := range ways[2] {
				last, want := command([3]int64{a.last, b.last, c.last}), command([3]int64{a.want, b.want, c.want})
				wantLimit(t, last, want, command([3]int64{a.next, b.next, c.next}))
			}
		}
	}
}

// P25.1: Limit by the words, from each edge of a number towards each other one.
func TestLimitByWords(t *testing.T) {
	m := mixer(25)
	for place := range ranges {
		for _, from := range edges(place) {
			for _, to := range edges(place) {
				last, want := with(m.command(), place, from), with(m.command(), place, to)
				wantLimit(t, last, want, limitByWords(last, want))
			}
		}
	}
}

// P25.1: Sink from all of what may be, and a little beyond, towards all of it.
func TestLimitOfSink(t *testing.T) {
	for from := int64(-24); from <= 28; from++ {
		for to := int64(-24); to <= 28; to++ {
			last, want := api.Command{Side: 4, Sink: from, Turn: -4}, api.Command{Side: -6, Sink: to, Turn: 6}
			next := api.Command{Side: -6, Turn: 6}
			begin, end := held(from, -20, 24), held(to, -20, 24)
			switch {
			case end-begin > 14:
				next.Sink = begin + 14
			case begin-end > 14:
				next.Sink = begin - 14
			default:
				next.Sink = end
			}
			wantLimit(t, last, want, next)
		}
	}
}

// between tells whether n is not beyond either of two numbers, whichever is the lower one.
func between(n, a, b int64) bool {
	return n >= min(a, b) && n <= max(a, b)
}

// P25.1: what Limit tells is no further from want than last was, and not beyond it; asked again and again, it gets there.
func TestLimitGetsThere(t *testing.T) {
	m := mixer(251)
	for range 20000 {
		last, want := m.command(), m.command()
		from, to := split(last), split(want)
		for place, r := range ranges {
			from[place], to[place] = held(from[place], r.low, r.high), held(to[place], r.low, r.high)
		}
		// The furthest way is that of Sink: 44, by 14 at once.
		for range 4 {
			last = Limit(last, want)
			next := split(last)
			for place, r := range ranges {
				n, way := next[place], next[place]-from[place]
				if !between(n, from[place], to[place]) || way > r.step || way < -r.step {
					t.Fatalf("towards %v the number %d goes from %d to %d", want, place, from[place], n)
				}
				if n == from[place] && n != to[place] {
					t.Fatalf("towards %v the number %d stays %d", want, place, n)
				}
			}
			from = next
		}
		if last != command(to) {
			t.Fatalf("towards %v it comes to %v", want, last)
		}
		wantLimit(t, last, want, last)
	}
}

// P25.1: Limit tells what may be as it is, and brings the rest within, where it is already.
func TestLimitToItself(t *testing.T) {
	m := mixer(252)
	for range 20000 {
		c := m.command()
		n := split(c)
		for place, r := range ranges {
			n[place] = held(n[place], r.low, r.high)
		}
		wantLimit(t, c, c, command(n))
		wantLimit(t, command(n), c, command(n))
		wantLimit(t, c, command(n), command(n))
	}
}

// guided are frames in numbers: what is there, what was ahead, what goes to the surfaces.
var guided = []struct {
	mode       uint8
	v          signals
	last, next api.Command
}{
	{api.Approach, signals{at(96), at(0), at(762), at(40)}, api.Command{Sink: 18}, api.Command{Side: -16, Sink: 18}},
	{api.Flare, signals{at(96), at(0), at(762), at(40)}, api.Command{Sink: 18}, api.Command{Side: -16, Sink: 10}},
	{api.Align, signals{at(96), at(0), at(762), at(40)}, api.Command{Sink: 18}, api.Command{Side: -16, Sink: 10, Turn: -10}},
	{api.Rollout, signals{at(96), at(0), at(762), at(40)}, api.Command{Sink: 18}, api.Command{Side: -10, Sink: 4, Turn: -10}},
	{api.Around, signals{at(96), at(0), at(762), at(40)}, api.Command{Sink: 18}, api.Command{Sink: 4}},
	{api.Around, signals{at(96), at(0), at(762), at(40)}, api.Command{Sink: 4}, api.Command{Sink: -10}},
	{api.Around, signals{at(96), at(0), at(762), at(40)}, api.Command{Sink: -10}, api.Command{Sink: -20}},
	{api.Off, signals{at(96), at(0), at(762), at(40)}, api.Command{Side: -16, Sink: 18, Turn: -10}, api.Command{Sink: 4}},
	{api.Armed, signals{at(96), at(0), at(762), at(40)}, api.Command{Side: -16, Sink: -20, Turn: -10}, api.Command{Sink: -6}},
	{7, signals{at(96), at(0), at(762), at(40)}, api.Command{Side: -16, Sink: 10, Turn: -10}, api.Command{}},
	{255, signals{at(96), at(0), at(762), at(40)}, api.Command{Side: -16, Sink: -15, Turn: -10}, api.Command{Sink: -1}},
	{api.Approach, signals{none(96), at(0), at(762), at(40)}, api.Command{Side: 7, Sink: 18, Turn: 9}, api.Command{Side: 7, Sink: 18}},
	{api.Approach, signals{at(96), none(0), at(762), at(40)}, api.Command{Side: 7, Sink: 21, Turn: 9}, api.Command{Side: -16, Sink: 21}},
	{api.Approach, signals{at(96), at(0), none(762), at(40)}, api.Command{Side: 7, Sink: 18, Turn: 9}, api.Command{Side: -6, Sink: 18}},
	{api.Approach, signals{at(96), at(0), at(762), none(40)}, api.Command{Side: 7, Sink: 18, Turn: 9}, api.Command{Side: -16, Sink: 18}},
	{api.Approach, signals{none(96), none(0), none(762), none(40)}, api.Command{Side: 99, Sink: 99, Turn: 99}, api.Command{Side: 20, Sink: 24}},
	{api.Approach, signals{at(-900), at(100), at(9000), at(0)}, api.Command{}, api.Command{Side: 20, Sink: 14}},
	{api.Approach, signals{at(greatest), at(greatest), at(greatest), at(greatest)}, api.Command{Side: 20}, api.Command{Side: -20, Sink: 14}},
	{api.Approach, signals{at(least), at(least), at(least), at(least)}, api.Command{Side: -20, Sink: least}, api.Command{Side: 20, Sink: -6}},
	{api.Flare, signals{none(96), at(100), at(1524), at(40)}, api.Command{Side: -20, Sink: 18}, api.Command{Side: -20, Sink: 18}},
	{api.Flare, signals{at(96), at(100), none(1524), at(40)}, api.Command{Side: -20, Sink: -99}, api.Command{Side: -6, Sink: -20}},
	{api.Flare, signals{at(-8), none(0), at(0), none(0)}, api.Command{Sink: 18, Turn: 500}, api.Command{Side: 2, Sink: 4}},
	{api.Flare, signals{at(-8), none(0), at(0), none(0)}, api.Command{Sink: 17}, api.Command{Side: 2, Sink: 3}},
	{api.Align, signals{none(96), at(100), none(299), none(40)}, api.Command{Side: -21, Sink: 5, Turn: -501}, api.Command{Side: -20, Sink: 5, Turn: -500}},
	{api.Align, signals{at(0), at(100), at(299), at(-4000)}, api.Command{Side: 20, Sink: 9, Turn: -500}, api.Command{Sink: 5, Turn: 500}},
	{api.Align, signals{at(0), at(100), at(299), at(greatest)}, api.Command{Side: 20, Sink: 9, Turn: 500}, api.Command{Sink: 5, Turn: -500}},
	{api.Align, signals{at(0), at(100), at(299), none(-4000)}, api.Command{Side: 20, Sink: 9, Turn: 33}, api.Command{Sink: 5, Turn: 33}},
	{api.Rollout, signals{none(96), none(0), none(0), none(40)}, api.Command{Side: 20, Sink: 3, Turn: -500}, api.Command{Side: 20, Turn: -500}},
	{api.Rollout, signals{at(-100), none(0), none(0), at(8)}, api.Command{Side: -20, Sink: 15, Turn: 500}, api.Command{Side: 10, Sink: 1, Turn: -2}},
	{api.Around, signals{none(96), none(0), none(0), none(40)}, api.Command{Side: 20, Sink: 99, Turn: -500}, api.Command{Sink: 10}},
}

// P25.1: Guide of frames in numbers.
func TestGuideInNumbers(t *testing.T) {
	for _, g := range guided {
		wantGuide(t, g.mode, g.v, g.last, g.next)
	}
}

// wantGuideOf asks Guide by the words, and by what the layers below tell.
func wantGuideOf(t *testing.T, mode uint8, v signals, last api.Command) {
	t.Helper()
	wantGuide(t, mode, v, last, guideByWords(mode, v, last))
	wantGuide(t, mode, v, last, Limit(last, api.Command{
		Side: side.Side(mode, v[api.Loc], v[api.Height], last.Side),
		Sink: sink.Sink(mode, v[api.Glide], v[api.Height], last.Sink),
		Turn: side.Turn(mode, v[api.Drift], last.Turn),
	}))
}

// P25.1: Guide of each mode of 0 to 255, the four signals there and not there in all sixteen ways, from each command ahead.
func TestGuideOfEachMode(t *testing.T) {
	m := mixer(256)
	all := [4][]int64{locs(), glides(), heights(), drifts()}
	for mode := range 256 {
		for there := range 16 {
			for _, last := range append(lasts(), m.command(), m.command()) {
				var v signals
				for k := range v {
					v[k] = api.Voted{Is: there>>k&1 == 1, Value: m.of(all[k]), Of: 3}
				}
				wantGuideOf(t, uint8(mode), v, last)
			}
		}
	}
}

// P25.1: Guide of each value of each signal by itself, the others there, not there, and mixed.
func TestGuideOfEachSignal(t *testing.T) {
	m := mixer(7)
	for mode := range uint8(8) {
		for k, values := range [4][]int64{locs(), glides(), heights(), drifts()} {
			for _, n := range values {
				for _, is := range []bool{false, true} {
					rest := []signals{{}, {at(96), at(20), at(762), at(40)}, {none(96), none(20), none(762), none(40)}, m.signals(), m.signals()}
					for _, v := range rest {
						v[k] = api.Voted{Is: is, Value: n, Of: 3}
						wantGuideOf(t, mode, v, lasts()[m.below(len(lasts()))])
						wantGuideOf(t, mode, v, m.command())
					}
				}
			}
		}
	}
}

// P25.1: the number ahead of each by itself: what was ahead of one changes nothing of the other two.
func TestGuideFromEachNumber(t *testing.T) {
	m := mixer(9)
	for mode := range uint8(8) {
		for place := range ranges {
			for _, n := range edges(place) {
				v, last := m.signals(), m.command()
				other := with(last, place, n)
				wantGuideOf(t, mode, v, other)
				one, two := split(Guide(mode, v, last)), split(Guide(mode, v, other))
				one[place] = two[place]
				if one != two {
					t.Fatalf("Guide(%d, %v, %v) = %v, of %v %v", mode, v, last, one, other, two)
				}
			}
		}
	}
}

// P25.1: of how many sources a signal is changes nothing, nor does the Value of one that is not there.
func TestWhateverOfSays(t *testing.T) {
	m := mixer(11)
	for range 3000 {
		mode, v, last := uint8(m.below(9)), m.signals(), m.command()
		want := Guide(mode, v, last)
		for _, of := range []int{-1, 0, 1, 2, 3, 4, math.MinInt, math.MaxInt} {
			for k := range v {
				other := v
				other[k].Of = of
				if !other[k].Is {
					other[k].Value = m.number()
				}
				wantGuide(t, mode, other, last, want)
			}
		}
	}
}

// P25.2: what Limit tells may be, from every few edges of three numbers towards every few.
func TestLimitMayBe(t *testing.T) {
	var all []api.Command
	for _, a := range fewEdges(0) {
		for _, b := range fewEdges(1) {
			for _, c := range fewEdges(2) {
				all = append(all, api.Command{Side: a, Sink: b, Turn: c})
			}
		}
	}
	for i, last := range all {
		for k := i % 3; k < len(all); k += 3 {
			if next := Limit(last, all[k]); !May(next) || !mayByWords(next) {
				t.Fatalf("Limit(%v, %v) = %v, which may not be", last, all[k], next)
			}
		}
	}
}

// P25.2: what Guide tells may be, frame by frame, and no number goes further than it may; whatever was ahead of the first one.
func TestGuideMayBe(t *testing.T) {
	m := mixer(13)
	for range 300 {
		last := m.command()
		for frame := range 100 {
			mode, v := uint8(m.below(256)), m.signals()
			if m.below(4) != 0 {
				mode %= 8
			}
			next := Guide(mode, v, last)
			if !May(next) || !mayByWords(next) {
				t.Fatalf("Guide(%d, %v, %v) = %v, which may not be", mode, v, last, next)
			}
			from, to := split(last), split(next)
			for place, r := range ranges {
				if way := to[place] - from[place]; frame > 0 && (way > r.step || way < -r.step) {
					t.Fatalf("the number %d goes from %v to %v", place, last, next)
				}
			}
			last = next
		}
	}
}

// P25.1: where nothing changes, Guide gets to what it wants, and stays there.
func TestGuideGetsThere(t *testing.T) {
	m := mixer(17)
	for range 5000 {
		mode, v, last := uint8(m.below(8)), m.signals(), m.command()
		want := wantByWords(mode, v, last)
		for range 4 {
			last = Guide(mode, v, last)
		}
		if last != want {
			t.Fatalf("in the mode %d by %v it comes to %v, not %v", mode, v, last, want)
		}
		wantGuide(t, mode, v, last, want)
	}
}

// asked is what is asked once: of May, of Limit and of Guide.
type asked struct {
	mode       uint8
	v          signals
	last, want api.Command
	answer     answers
}

type answers struct {
	may           bool
	limit, guided api.Command
}

func (a asked) ask() answers {
	return answers{May(a.last), Limit(a.last, a.want), Guide(a.mode, a.v, a.last)}
}

// What a call answers hangs on nothing that was asked before it: the same answers come forwards, backwards, and out of order.
func TestAskedAgain(t *testing.T) {
	m := mixer(250)
	var all []asked
	for range 5000 {
		a := asked{mode: uint8(m.below(9)), v: m.signals(), last: m.command(), want: m.command()}
		a.answer = a.ask()
		if want := (answers{mayByWords(a.last), limitByWords(a.last, a.want), guideByWords(a.mode, a.v, a.last)}); a.answer != want {
			t.Fatalf("%+v: not %v", a, want)
		}
		all = append(all, a)
	}
	for _, a := range slices.Backward(all) {
		if again := a.ask(); again != a.answer {
			t.Fatalf("%+v: now %v", a, again)
		}
	}
	for range all {
		a := all[m.below(len(all))]
		if again := a.ask(); again != a.answer {
			t.Fatalf("%+v: at last %v", a, again)
		}
	}
}
