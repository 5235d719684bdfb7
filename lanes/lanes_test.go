package lanes

import (
	"math"
	"math/big"
	"slices"
	"testing"

	"flarepath/api"
)

const (
	least    = math.MinInt64
	greatest = math.MaxInt64
)

type (
	commands = [api.Lanes]api.Command
	truths   = [api.Lanes]bool
)

// mixed are commands of whose numbers each lane says the middle of one.
var mixed = commands{
	{Side: 10, Sink: -6, Turn: 300},
	{Side: 30, Sink: -7, Turn: 200},
	{Side: 20, Sink: -5, Turn: 100},
}

// middles are the middles of mixed: the Side of lane 2, the Sink of lane 0, the Turn of lane 1.
var middles = api.Command{Side: 20, Sink: -6, Turn: 200}

// noLanes are numbers that no lane has.
var noLanes = []int{-1, 3, 4, -2, 255, 256, math.MinInt, math.MinInt + 1, math.MaxInt, math.MaxInt - 1}

// pairs are two lanes and the third one.
var pairs = [][3]int{{0, 1, 2}, {0, 2, 1}, {1, 2, 0}}

func sides(a, b, c int64) commands {
	return commands{{Side: a}, {Side: b}, {Side: c}}
}

// patterns are all that three truths can be.
func patterns() []truths {
	var all []truths
	for bits := range 8 {
		all = append(all, truths{bits&1 > 0, bits&2 > 0, bits&4 > 0})
	}
	return all
}

// edges are numbers at which a sum or a difference runs over, a sign turns, or a half is no whole number.
func edges() []int64 {
	return []int64{least, least + 1, least / 2, -1 << 40, -7, -4, -1, 0, 1, 2, 9, 1 << 40, greatest/2 + 1, greatest - 1, greatest}
}

// orders are the six orders of three places.
func orders() [][3]int {
	return [][3]int{{0, 1, 2}, {0, 2, 1}, {1, 0, 2}, {1, 2, 0}, {2, 0, 1}, {2, 1, 0}}
}

// withNumber puts n into one of a command's numbers.
func withNumber(c api.Command, place int, n int64) api.Command {
	switch place {
	case 0:
		c.Side = n
	case 1:
		c.Sink = n
	case 2:
		c.Turn = n
	}
	return c
}

func split(c api.Command) [3]int64 {
	return [3]int64{c.Side, c.Sink, c.Turn}
}

// turned are commands whose numbers are those of l, each of the three in an order of its own.
func turned(l [3]int64) commands {
	return commands{
		{Side: l[0], Sink: l[1], Turn: l[2]},
		{Side: l[1], Sink: l[2], Turn: l[0]},
		{Side: l[2], Sink: l[0], Turn: l[1]},
	}
}

// comesTo tells what numbers come to: the second of three in their order, half of the sum of two by numbers without ends, the one.
func comesTo(l []int64) int64 {
	slices.Sort(l)
	switch len(l) {
	case 3:
		return l[1]
	case 2:
		sum := new(big.Int).Add(big.NewInt(l[0]), big.NewInt(l[1]))
		// Of a positive divisor, Div goes down, not towards 0.
		return sum.Div(sum, big.NewInt(2)).Int64()
	}
	return l[0]
}

// wordsOf tells what some commands come to by the chapter's words.
func wordsOf(l []api.Command) api.Command {
	var c api.Command
	for place := range 3 {
		var values []int64
		for _, x := range l {
			values = append(values, split(x)[place])
		}
		c = withNumber(c, place, comesTo(values))
	}
	return c
}

// voteByWords tells Vote of a lane that there is: its own command in the place of each other one that it did not hear.
func voteByWords(own int, cmds commands, heard truths) api.Command {
	var l []api.Command
	for k := range cmds {
		if k == own || !heard[k] {
			l = append(l, cmds[own])
			continue
		}
		l = append(l, cmds[k])
	}
	return wordsOf(l)
}

// alone tells the commands of the lanes that are alive.
func alone(cmds commands, alive truths) []api.Command {
	var l []api.Command
	for k, c := range cmds {
		if alive[k] {
			l = append(l, c)
		}
	}
	return l
}

// wantVote asks Vote, and whether what was handed in stays as it was.
func wantVote(t *testing.T, own int, cmds commands, heard truths, want api.Command) {
	t.Helper()
	keptCmds, keptHeard := cmds, heard
	if got, e := Vote(own, cmds, heard); got != want || e != api.OK {
		t.Fatalf("Vote(%d, %v, %v) = %v, %d, not %v", own, cmds, heard, got, e, want)
	}
	if cmds != keptCmds || heard != keptHeard {
		t.Fatalf("Vote made %v, %v of %v, %v", cmds, heard, keptCmds, keptHeard)
	}
}

// wantServo asks Servo, and whether what was handed in stays as it was.
func wantServo(t *testing.T, cmds commands, alive truths, want api.Command) {
	t.Helper()
	keptCmds, keptAlive := cmds, alive
	if got, is := Servo(cmds, alive); got != want || !is {
		t.Fatalf("Servo(%v, %v) = %v, %t, not %v", cmds, alive, got, is, want)
	}
	if cmds != keptCmds || alive != keptAlive {
		t.Fatalf("Servo made %v, %v of %v, %v", cmds, alive, keptCmds, keptAlive)
	}
}

// The chapter's table of examples.
func TestExamples(t *testing.T) {
	l := sides(5, 9, 7)
	wantVote(t, 0, l, truths{false, true, true}, api.Command{Side: 7})
	wantVote(t, 0, l, truths{false, true, false}, api.Command{Side: 5})
	if c, e := Vote(3, l, truths{true, true, true}); c != (api.Command{}) || e != api.ErrArg {
		t.Errorf("Vote(3) = %v, %d", c, e)
	}
	wantServo(t, l, truths{true, true, true}, api.Command{Side: 7})
	wantServo(t, l, truths{true, true, false}, api.Command{Side: 7})
	if c, is := Servo(l, truths{}); c != (api.Command{}) || is {
		t.Errorf("Servo of none = %v, %t", c, is)
	}
	if n := Many(truths{true, false, true}); n != 2 {
		t.Errorf("Many = %d", n)
	}
	if n := Apart(api.Command{Side: 5}, api.Command{Side: 9}); n != 4 {
		t.Errorf("Apart = %d", n)
	}
}

// P14.1: of no lane there is no vote, whatever was heard, and the command is zero.
func TestVoteOfNoLane(t *testing.T) {
	for _, own := range noLanes {
		for _, heard := range patterns() {
			if c, e := Vote(own, mixed, heard); c != (api.Command{}) || e != api.ErrArg {
				t.Errorf("Vote(%d, .., %v) = %v, %d", own, heard, c, e)
			}
		}
	}
}

// P14.1: each lane, with each pattern of what it heard: three numbers from three lanes if it heard both others, else its own,
// whatever heard says of itself.
func TestVoteEachPattern(t *testing.T) {
	for own := range api.Lanes {
		for _, heard := range patterns() {
			want := mixed[own]
			if heard[(own+1)%api.Lanes] && heard[(own+2)%api.Lanes] {
				want = middles
			}
			wantVote(t, own, mixed, heard, want)
		}
	}
}

// P14.1: one number alone, each in its place: the others stay what they are.
func TestVoteEachNumber(t *testing.T) {
	for place := range 3 {
		for _, order := range orders() {
			var cmds commands
			for k, n := range []int64{-4, 1, 8} {
				cmds[order[k]] = withNumber(api.Command{}, place, n)
			}
			for own := range api.Lanes {
				wantVote(t, own, cmds, truths{true, true, true}, withNumber(api.Command{}, place, 1))
			}
		}
	}
}

// P14.1: equal numbers, both ends of int64, and numbers on both sides of 0, in each order and of each lane.
func TestVoteNumbers(t *testing.T) {
	for _, c := range []struct{ low, middle, high int64 }{
		{4, 4, 9},
		{4, 9, 9},
		{4, 4, 4},
		{0, 0, 0},
		{-4, -4, -4},
		{-4, -4, 9},
		{-4, 9, 9},
		{-9, -4, 3},
		{-9, 0, 4},
		{-1, 0, 1},
		{least, 0, greatest},
		{least, -1, greatest},
		{least, least, greatest},
		{least, greatest, greatest},
		{least, least, least},
		{greatest, greatest, greatest},
		{least, least + 1, least + 2},
		{greatest - 2, greatest - 1, greatest},
	} {
		for _, order := range orders() {
			l := [3]int64{c.low, c.middle, c.high}
			cmds := turned([3]int64{l[order[0]], l[order[1]], l[order[2]]})
			for own := range api.Lanes {
				wantVote(t, own, cmds, truths{true, true, true}, api.Command{Side: c.middle, Sink: c.middle, Turn: c.middle})
			}
		}
	}
}

// P14.1: what a lane did not hear counts for nothing, whatever stands in its place.
func TestVoteNotHeard(t *testing.T) {
	for own := range api.Lanes {
		for other := range api.Lanes {
			if other == own {
				continue
			}
			for _, n := range edges() {
				cmds := mixed
				cmds[other] = api.Command{Side: n, Sink: n, Turn: n}
				heard := truths{true, true, true}
				heard[other] = false
				wantVote(t, own, cmds, heard, mixed[own])
			}
		}
	}
}

// P14.1: as the chapter's words, for many numbers and each pattern.
func TestVoteAgainstWords(t *testing.T) {
	for _, a := range edges() {
		for _, b := range edges() {
			for _, c := range edges() {
				cmds := turned([3]int64{a, b, c})
				for own := range api.Lanes {
					for _, heard := range patterns() {
						wantVote(t, own, cmds, heard, voteByWords(own, cmds, heard))
					}
				}
			}
		}
	}
}

// P14.1: each pattern of who is alive: the middle, the averages towards the lesser one, the one, none.
func TestServoEachPattern(t *testing.T) {
	cmds := commands{
		{Side: 10, Sink: -6, Turn: 300},
		{Side: 31, Sink: -9, Turn: 200},
		{Side: 21, Sink: 5, Turn: -101},
	}
	for _, c := range []struct {
		alive truths
		want  api.Command
		is    bool
	}{
		{truths{false, false, false}, api.Command{}, false},
		{truths{true, false, false}, cmds[0], true},
		{truths{false, true, false}, cmds[1], true},
		{truths{false, false, true}, cmds[2], true},
		{truths{true, true, false}, api.Command{Side: 20, Sink: -8, Turn: 250}, true},
		{truths{true, false, true}, api.Command{Side: 15, Sink: -1, Turn: 99}, true},
		{truths{false, true, true}, api.Command{Side: 26, Sink: -2, Turn: 49}, true},
		{truths{true, true, true}, api.Command{Side: 21, Sink: -6, Turn: 200}, true},
	} {
		if got, is := Servo(cmds, c.alive); got != c.want || is != c.is {
			t.Errorf("Servo(.., %v) = %v, %t, not %v, %t", c.alive, got, is, c.want, c.is)
		}
	}
}

// P14.1: averages of two that are alive, in each of a command's places and of each pair of lanes.
func TestServoAverage(t *testing.T) {
	for _, c := range []struct{ a, b, want int64 }{
		{5, 8, 6},
		{5, 9, 7},
		{0, 1, 0},
		{-1, 0, -1},
		{-3, 0, -2},
		{-4, -7, -6},
		{-5, 6, 0},
		{-6, 5, -1},
		{-4, -4, -4},
		{greatest, greatest, greatest},
		{greatest, greatest - 1, greatest - 1},
		{greatest, greatest - 2, greatest - 1},
		{least, least, least},
		{least, least + 1, least},
		{least, least + 2, least + 1},
		{least, greatest, -1},
		{least + 1, greatest, 0},
		{least, 0, least / 2},
		{greatest, 0, greatest / 2},
	} {
		for place := range 3 {
			for _, p := range pairs {
				cmds := commands{}
				cmds[p[2]] = api.Command{Side: 77, Sink: 77, Turn: 77}
				alive := truths{true, true, true}
				alive[p[2]] = false
				want := withNumber(api.Command{}, place, c.want)
				cmds[p[0]], cmds[p[1]] = withNumber(api.Command{}, place, c.a), withNumber(api.Command{}, place, c.b)
				wantServo(t, cmds, alive, want)
				cmds[p[0]], cmds[p[1]] = cmds[p[1]], cmds[p[0]]
				wantServo(t, cmds, alive, want)
			}
		}
	}
}

// P14.1: what a dead lane says counts for nothing; none alive: no, and a zero command, whatever they say.
func TestServoDead(t *testing.T) {
	for _, alive := range patterns() {
		for _, n := range edges() {
			cmds := mixed
			for k := range cmds {
				if !alive[k] {
					cmds[k] = api.Command{Side: n, Sink: n, Turn: n}
				}
			}
			want, wantIs := Servo(mixed, alive)
			got, is := Servo(cmds, alive)
			if got != want || is != wantIs || is != (alive != truths{}) {
				t.Errorf("Servo(%v, %v) = %v, %t, not %v, %t", cmds, alive, got, is, want, wantIs)
			}
			if !is && got != (api.Command{}) {
				t.Errorf("Servo of none = %v", got)
			}
		}
	}
}

// P14.1: as the chapter's words, for many numbers and each pattern.
func TestServoAgainstWords(t *testing.T) {
	for _, a := range edges() {
		for _, b := range edges() {
			for _, c := range edges() {
				cmds := turned([3]int64{a, b, c})
				for _, alive := range patterns()[1:] {
					wantServo(t, cmds, alive, wordsOf(alone(cmds, alive)))
				}
			}
		}
	}
}

// P14.1: how many of each pattern are alive.
func TestMany(t *testing.T) {
	for _, c := range []struct {
		alive truths
		want  int
	}{
		{truths{false, false, false}, 0},
		{truths{true, false, false}, 1},
		{truths{false, true, false}, 1},
		{truths{false, false, true}, 1},
		{truths{true, true, false}, 2},
		{truths{true, false, true}, 2},
		{truths{false, true, true}, 2},
		{truths{true, true, true}, 3},
	} {
		kept := c.alive
		if got := Many(c.alive); got != c.want || c.alive != kept {
			t.Errorf("Many(%v) = %d, not %d", kept, got, c.want)
		}
	}
}

// wantApart asks Apart both ways.
func wantApart(t *testing.T, a, b api.Command, want int64) {
	t.Helper()
	if got := Apart(a, b); got != want {
		t.Fatalf("Apart(%v, %v) = %d, not %d", a, b, got, want)
	}
	if got := Apart(b, a); got != want {
		t.Fatalf("Apart(%v, %v) = %d, not %d", b, a, got, want)
	}
}

// P14.1: the greatest of the three differences, whichever it is, and whichever of the two is greater.
func TestApart(t *testing.T) {
	for _, c := range []struct {
		a, b api.Command
		want int64
	}{
		{api.Command{}, api.Command{}, 0},
		{api.Command{Side: 5, Sink: -6, Turn: 7}, api.Command{Side: 5, Sink: -6, Turn: 7}, 0},
		{api.Command{Side: least, Sink: greatest, Turn: least}, api.Command{Side: least, Sink: greatest, Turn: least}, 0},
		{api.Command{Side: 1}, api.Command{}, 1},
		{api.Command{Sink: -3}, api.Command{Turn: 2}, 3},
		{api.Command{Side: 10, Sink: 20, Turn: 30}, api.Command{Side: 19, Sink: 28, Turn: 37}, 9},
		{api.Command{Side: 10, Sink: 20, Turn: 30}, api.Command{Side: 17, Sink: 29, Turn: 38}, 9},
		{api.Command{Side: 10, Sink: 20, Turn: 30}, api.Command{Side: 18, Sink: 27, Turn: 39}, 9},
		{api.Command{Side: 10, Sink: 20, Turn: 30}, api.Command{Side: 1, Sink: 28, Turn: 37}, 9},
		{api.Command{Side: 10, Sink: 20, Turn: 30}, api.Command{Side: 17, Sink: 11, Turn: 38}, 9},
		{api.Command{Side: 10, Sink: 20, Turn: 30}, api.Command{Side: 18, Sink: 27, Turn: 21}, 9},
		{api.Command{Side: -10, Sink: -20, Turn: -30}, api.Command{Side: -1, Sink: -20, Turn: -31}, 9},
		{api.Command{Side: -4, Sink: 1, Turn: 0}, api.Command{Side: 5, Sink: -1, Turn: 3}, 9},
	} {
		wantApart(t, c.a, c.b, c.want)
	}
}

// P14.1: differences about the greatest one that fits, in each place alone, and beside small ones.
func TestApartAtTheEnds(t *testing.T) {
	for _, c := range []struct{ a, b, want int64 }{
		{least, greatest, greatest},
		{least, 1, greatest},
		{least, 0, greatest},
		{least, -1, greatest},
		{least, -2, greatest - 1},
		{least + 1, 1, greatest},
		{least + 1, 0, greatest},
		{least + 1, -1, greatest - 1},
		{-1, greatest, greatest},
		{-2, greatest, greatest},
		{0, greatest, greatest},
		{1, greatest, greatest - 1},
		{-1, greatest - 1, greatest},
		{-1, greatest - 2, greatest - 1},
		{least / 2, greatest/2 + 1, greatest},
		{least / 2, greatest / 2, greatest},
		{least / 2, greatest/2 - 1, greatest - 1},
		{least, least + 1, 1},
		{greatest, greatest - 1, 1},
		{least, least, 0},
		{greatest, greatest, 0},
	} {
		for place := range 3 {
			wantApart(t, withNumber(api.Command{}, place, c.a), withNumber(api.Command{}, place, c.b), c.want)
			a := withNumber(api.Command{Side: 4, Sink: -4, Turn: 9}, place, c.a)
			b := withNumber(api.Command{Side: 6, Sink: -5, Turn: 8}, place, c.b)
			if c.want > 2 {
				wantApart(t, a, b, c.want)
			}
		}
	}
}

// apartByWords tells Apart by numbers that have no ends.
func apartByWords(a, b api.Command) int64 {
	most := big.NewInt(0)
	for place := range 3 {
		d := new(big.Int).Sub(big.NewInt(split(a)[place]), big.NewInt(split(b)[place]))
		if d.Abs(d).Cmp(most) > 0 {
			most = d
		}
	}
	if !most.IsInt64() {
		return greatest
	}
	return most.Int64()
}

// P14.1: as numbers without ends tell it.
func TestApartAgainstBig(t *testing.T) {
	for _, a := range edges() {
		for _, b := range edges() {
			for _, c := range edges() {
				l := turned([3]int64{a, b, c})
				for _, p := range pairs {
					wantApart(t, l[p[0]], l[p[1]], apartByWords(l[p[0]], l[p[1]]))
				}
				wantApart(t, api.Command{Side: a}, api.Command{Side: b, Turn: c}, apartByWords(api.Command{Side: a}, api.Command{Side: b, Turn: c}))
			}
		}
	}
}

// P14.2: of two lanes that are alike both come to their own command, whatever the third one says, whatever each of the three hears;
// so, of three, what they take comes to the surfaces.
func TestAlikeKeepTheirOwn(t *testing.T) {
	for _, p := range pairs {
		for _, own := range someCommands() {
			for _, third := range someCommands() {
				var cmds commands
				cmds[p[0]], cmds[p[1]], cmds[p[2]] = own, own, third
				taken := cmds
				for _, heard := range patterns() {
					wantVote(t, p[0], cmds, heard, own)
					wantVote(t, p[1], cmds, heard, own)
					taken[p[2]], _ = Vote(p[2], cmds, heard)
					wantServo(t, taken, truths{true, true, true}, own)
				}
			}
		}
	}
}

// someCommands are commands at the ends of int64 and between them, their numbers alike and not.
func someCommands() []api.Command {
	var all []api.Command
	for i, n := range edges() {
		l := turned([3]int64{n, edges()[(i+5)%len(edges())], edges()[(i+11)%len(edges())]})
		all = append(all, l[:]...)
		all = append(all, api.Command{Side: n, Sink: n, Turn: n})
	}
	return all
}

// P14.2: of three, what goes to the surfaces is what any two that are alike say, whatever the third one says,
// and of these two alone it is theirs too.
func TestServoOfTwoAlike(t *testing.T) {
	for _, p := range pairs {
		for _, own := range someCommands() {
			for _, third := range someCommands() {
				var cmds commands
				cmds[p[0]], cmds[p[1]], cmds[p[2]] = own, own, third
				wantServo(t, cmds, truths{true, true, true}, own)
				alive := truths{true, true, true}
				alive[p[2]] = false
				wantServo(t, cmds, alive, own)
			}
		}
	}
}

// P14.2: two that are alike in one number alone: that one is theirs.
func TestServoOfTwoAlikeInOneNumber(t *testing.T) {
	for _, p := range pairs {
		for place := range 3 {
			for _, n := range edges() {
				cmds := mixed
				cmds[p[0]], cmds[p[1]] = withNumber(cmds[p[0]], place, n), withNumber(cmds[p[1]], place, n)
				wantServo(t, cmds, truths{true, true, true}, withNumber(middles, place, n))
			}
		}
	}
}

// P14.2: what goes to the surfaces lies between the least and the greatest of those that are alive, each number by itself.
func TestServoLiesBetween(t *testing.T) {
	for _, a := range edges() {
		for _, b := range edges() {
			for _, c := range edges() {
				for _, alive := range patterns()[1:] {
					between(t, turned([3]int64{a, b, c}), alive)
				}
			}
		}
	}
}

func between(t *testing.T, cmds commands, alive truths) {
	t.Helper()
	got, is := Servo(cmds, alive)
	for place, n := range split(got) {
		var l []int64
		for _, c := range alone(cmds, alive) {
			l = append(l, split(c)[place])
		}
		if !is || n < slices.Min(l) || n > slices.Max(l) {
			t.Fatalf("Servo(%v, %v) = %v, %t: number %d is not between those alive", cmds, alive, got, is, place)
		}
	}
}
