package table

import (
	"math"
	"math/big"
	"slices"
	"testing"

	"flarepath/api"
)

const (
	least    = math.MinInt64
	greatest = math.MaxInt64
	most     = api.MaxFixed
)

// long tells n points whose wheres rise by ways of their own, and whose whats go up and down.
func long(n int) [][2]int64 {
	l := make([][2]int64, 0, n)
	where := int64(-50)
	for i := range n {
		l = append(l, [2]int64{where, int64(i*37%23 - 11)})
		where += int64(i%5 + 1)
	}
	return l
}

// tables are such as may be asked: of all lengths, with whats that rise, fall and stay, near to each other and far away.
func tables() [][][2]int64 {
	all := [][][2]int64{
		Gains(),
		{{-10, 7}, {0, -8}},
		{{-10, -8}, {0, 7}},
		{{0, 5}, {10, 5}},
		{{3, 1}, {4, 9}},
		{{-7, 0}, {-6, 10}, {0, -10}, {1, 3}, {100, 4}},
		{{0, 0}, {1000, 1}},
		{{0, 0}, {1000, -1}},
		{{-most, most}, {most, -most}},
		{{-most, -most}, {most, most}},
		{{-most, -most}, {0, 0}, {most, most}},
		{{-most, 3}, {-most + 1, -3}, {most - 1, 3}, {most, -3}},
	}
	for n := 2; n <= api.MaxTable; n++ {
		all = append(all, long(n))
	}
	return all
}

// wrongTables are lists that are no tables, each by one thing alone.
func wrongTables() map[string][][2]int64 {
	wrong := map[string][][2]int64{
		"nil":                          nil,
		"no points":                    {},
		"one point":                    {{0, 4}},
		"one point too many":           long(api.MaxTable + 1),
		"twice as many points":         long(2 * api.MaxTable),
		"wheres that are the same":     {{5, 0}, {5, 1}},
		"points that are the same":     {{5, 1}, {5, 1}},
		"wheres that fall":             {{1, 0}, {0, 1}},
		"the first two the same":       {{0, 0}, {0, 1}, {1, 2}},
		"the last two the same":        {{0, 0}, {1, 1}, {1, 2}},
		"the last one falls":           {{0, 0}, {2, 1}, {1, 2}},
		"the ends fall":                {{most, 0}, {-most, 1}},
		"a first where below":          {{-most - 1, 0}, {0, 0}},
		"a last where above":           {{0, 0}, {most + 1, 0}},
		"a first where of the least":   {{least, 0}, {0, 0}},
		"a last where of the greatest": {{0, 0}, {greatest, 0}},
		"both wheres above":            {{most + 1, 0}, {most + 2, 0}},
		"both wheres below":            {{-most - 2, 0}, {-most - 1, 0}},
		"a first what below":           {{0, -most - 1}, {1, 0}},
		"a first what above":           {{0, most + 1}, {1, 0}},
		"a last what below":            {{0, 0}, {1, -most - 1}},
		"a last what above":            {{0, 0}, {1, most + 1}},
		"a what in the middle above":   {{0, 0}, {1, most + 1}, {2, 0}},
		"a what of the least":          {{0, least}, {1, 0}},
		"a what of the greatest":       {{0, 0}, {1, greatest}},
		"the ends of int64 as points":  {{least, least}, {greatest, greatest}},
		"MaxTable points of zeros":     make([][2]int64, api.MaxTable),
	}
	full := long(api.MaxTable)
	full[9][0] = full[8][0]
	wrong["the same in the middle of MaxTable"] = full
	full = long(api.MaxTable)
	full[9][0] = full[8][0] - 1
	wrong["a fall in the middle of MaxTable"] = full
	return wrong
}

// asked are the xs around the points of l, between them, and at the ends of all.
func asked(l [][2]int64) []int64 {
	xs := []int64{least, least + 1, -most - 1, -most, -1, 0, 1, most, most + 1, greatest - 1, greatest}
	for i, p := range l {
		for d := int64(-3); d <= 3; d++ {
			xs = append(xs, p[0]+d)
		}
		if i > 0 {
			way := p[0] - l[i-1][0]
			for _, part := range []int64{2, 3, 7, 1 << 18} {
				xs = append(xs, l[i-1][0]+way/part, p[0]-way/part)
			}
		}
	}
	return xs
}

// bigAt tells At of a table point by point, by numbers that have no ends.
func bigAt(l [][2]int64, x int64) (int64, api.Errno) {
	for i, p := range l {
		switch {
		case x == p[0] || i == 0 && x < p[0]:
			return p[1], api.OK
		case x < p[0]:
			return bigBetween(l[i-1], p, x)
		}
	}
	return l[len(l)-1][1], api.OK
}

func bigBetween(a, b [2]int64, x int64) (int64, api.Errno) {
	product := bigWay(a[1], b[1])
	product.Mul(product, bigWay(a[0], x))
	if !product.IsInt64() {
		return 0, api.ErrRange
	}
	n := product.Quo(product, bigWay(a[0], b[0]))
	return n.Add(n, big.NewInt(a[1])).Int64(), api.OK
}

func bigWay(from, to int64) *big.Int {
	return new(big.Int).Sub(big.NewInt(to), big.NewInt(from))
}

func checkAt(t *testing.T, l [][2]int64, x, want int64, wantErrno api.Errno) {
	t.Helper()
	if got, errno := At(l, x); got != want || errno != wantErrno {
		t.Errorf("At(%v, %d) = %d, %d, not %d, %d", l, x, got, errno, want, wantErrno)
	}
}

// P4.1: tables of two points, of MaxTable of them, and of numbers that are just such as may be.
func TestMay(t *testing.T) {
	for _, l := range append(tables(),
		[][2]int64{{-most, -most}, {-most + 1, -most}},
		[][2]int64{{most - 1, most}, {most, most}},
		[][2]int64{{0, -most}, {1, most}},
	) {
		if !May(l) {
			t.Errorf("May(%v) is false", l)
		}
	}
	if l := long(api.MaxTable); len(l) != api.MaxTable || !May(l) {
		t.Errorf("May of %d points is false", len(l))
	}
}

// P4.1: what is no table, whatever is asked of it, ahead of what would run over.
func TestWrongTables(t *testing.T) {
	for name, l := range wrongTables() {
		if May(l) {
			t.Errorf("%s: May is true", name)
		}
		for _, x := range asked(nil) {
			if n, errno := At(l, x); n != 0 || errno != api.ErrArg {
				t.Errorf("%s: At(%d) = %d, %d", name, x, n, errno)
			}
		}
	}
	// Between the first two the product runs over; the third one is no point of a table.
	checkAt(t, [][2]int64{{-most, -most}, {most, most}, {most, 0}}, 0, 0, api.ErrArg)
}

// P4.1: the chapter's examples.
func TestExamples(t *testing.T) {
	checkAt(t, Gains(), 0, 4, api.OK)
	checkAt(t, Gains(), 762, 6, api.OK)
	checkAt(t, Gains(), 3810, 10, api.OK)
	checkAt(t, Gains(), -5, 4, api.OK)
	checkAt(t, Gains(), 99999, 16, api.OK)
	checkAt(t, [][2]int64{{0, 4}}, 0, 0, api.ErrArg)
}

// P4.1: the share of the way goes towards 0, whichever way the whats go and on whichever side of 0 they are.
func TestTowardsZero(t *testing.T) {
	for _, c := range []struct {
		l       [][2]int64
		x, want int64
	}{
		{[][2]int64{{0, 0}, {3, 10}}, 1, 3},
		{[][2]int64{{0, 0}, {3, 10}}, 2, 6},
		{[][2]int64{{0, 0}, {3, -10}}, 1, -3},
		{[][2]int64{{0, 0}, {3, -10}}, 2, -6},
		{[][2]int64{{0, 10}, {3, 0}}, 1, 7},
		{[][2]int64{{0, 10}, {3, 0}}, 2, 4},
		{[][2]int64{{0, -10}, {3, 0}}, 1, -7},
		{[][2]int64{{0, -10}, {3, 0}}, 2, -4},
		{[][2]int64{{-10, 7}, {0, -8}}, -9, 6},
		{[][2]int64{{-10, 7}, {0, -8}}, -5, 0},
		{[][2]int64{{-10, 7}, {0, -8}}, -4, -2},
		{[][2]int64{{-10, 7}, {0, -8}}, -1, -6},
		{[][2]int64{{-10, -8}, {0, 7}}, -9, -7},
		{[][2]int64{{-10, -8}, {0, 7}}, -1, 5},
		{[][2]int64{{0, 4}, {1000, 5}}, 999, 4},
		{[][2]int64{{0, 5}, {1000, 4}}, 999, 5},
		{[][2]int64{{0, 5}, {1000, 5}}, 500, 5},
		{[][2]int64{{-6, 1}, {-3, 2}, {5, 20}}, 4, 17},
		{[][2]int64{{-6, 1}, {-3, 2}, {5, 20}}, -4, 1},
		{Gains(), 380, 4},
		{Gains(), 381, 5},
		{Gains(), 29999, 15},
	} {
		checkAt(t, c.l, c.x, c.want, api.OK)
	}
}

// P4.1: ahead of the first point and behind the last one it is theirs, to the ends of int64.
func TestOutside(t *testing.T) {
	for _, l := range tables() {
		first, last := l[0], l[len(l)-1]
		for _, x := range []int64{least, least + 1, first[0] - 1000, first[0] - 1} {
			checkAt(t, l, x, first[1], api.OK)
		}
		for _, x := range []int64{last[0] + 1, last[0] + 1000, greatest - 1, greatest} {
			checkAt(t, l, x, last[1], api.OK)
		}
	}
}

// P4.1: the last products that are an int64, and the first ones that are none, though what would come of them may be.
func TestBetweenRunsOver(t *testing.T) {
	rise := [][2]int64{{0, 0}, {most, most}}
	fall := [][2]int64{{0, 0}, {most, -most}}
	wide := [][2]int64{{-most, -most}, {most, most}}
	steep := [][2]int64{{-most, most}, {most, -most}}
	for _, c := range []struct {
		l       [][2]int64
		x, want int64
		errno   api.Errno
	}{
		{rise, 1<<23 - 1, 1<<23 - 1, api.OK},
		{rise, 1 << 23, 0, api.ErrRange},
		{rise, most - 1, 0, api.ErrRange},
		// The least number is an int64, its negative is none.
		{fall, 1 << 23, -1 << 23, api.OK},
		{fall, 1<<23 + 1, 0, api.ErrRange},
		{fall, most - 1, 0, api.ErrRange},
		{wide, -most + 1<<22 - 1, -most + 1<<22 - 1, api.OK},
		{wide, -most + 1<<22, 0, api.ErrRange},
		{wide, 0, 0, api.ErrRange},
		{wide, most - 1, 0, api.ErrRange},
		{steep, -most + 1<<22, most - 1<<22, api.OK},
		{steep, -most + 1<<22 + 1, 0, api.ErrRange},
		{steep, 0, 0, api.ErrRange},
		{steep, most - 1, 0, api.ErrRange},
		// At the points and outside of them nothing comes between.
		{rise, most, most, api.OK},
		{fall, most, -most, api.OK},
		{wide, -most, -most, api.OK},
		{wide, most, most, api.OK},
		{steep, -most, most, api.OK},
		{steep, most, -most, api.OK},
		{wide, 1 << 60, most, api.OK},
		{wide, -1 << 60, -most, api.OK},
		{wide, greatest, most, api.OK},
		{wide, least, -most, api.OK},
		// Another pair of points is not the one that x is between.
		{[][2]int64{{-most, -most}, {0, most}, {10, 0}}, 5, most / 2, api.OK},
		{[][2]int64{{-most, -most}, {0, most}, {10, 0}}, -5, 0, api.ErrRange},
	} {
		checkAt(t, c.l, c.x, c.want, c.errno)
	}
}

// P4.1: as numbers without ends tell it, of tables of all lengths; beside an error stands 0.
func TestAtAgainstBig(t *testing.T) {
	over := 0
	for _, l := range tables() {
		for _, x := range asked(l) {
			want, wantErrno := bigAt(l, x)
			checkAt(t, l, x, want, wantErrno)
			if wantErrno == api.ErrRange {
				over++
			}
		}
	}
	if over == 0 {
		t.Error("none of the products ran over")
	}
}

// P4.1: as numbers without ends tell it, of all pairs of points of such numbers.
func TestPairsAgainstBig(t *testing.T) {
	numbers := []int64{-most - 1, -most, -most / 2, -1 << 22, -1000, -7, 0, 1, 10, 1 << 23, most - 1, most, most + 1}
	for _, from := range numbers {
		for _, to := range numbers {
			for _, a := range numbers {
				for _, b := range numbers {
					checkPair(t, [][2]int64{{from, a}, {to, b}})
				}
			}
		}
	}
}

func checkPair(t *testing.T, l [][2]int64) {
	t.Helper()
	is := l[0][0] < l[1][0]
	for _, p := range l {
		for _, n := range p {
			is = is && big.NewInt(n).CmpAbs(big.NewInt(most)) <= 0
		}
	}
	if got := May(l); got != is {
		t.Errorf("May(%v) = %t", l, got)
	}
	for _, x := range []int64{l[0][0], l[0][0] + 1, l[0][0] + 1<<22, (l[0][0] + l[1][0]) / 2, l[1][0] - 1, l[1][0]} {
		want, wantErrno := int64(0), api.ErrArg
		if is {
			want, wantErrno = bigAt(l, x)
		}
		checkAt(t, l, x, want, wantErrno)
	}
}

// P4.2: the points that the chapter names.
func TestGains(t *testing.T) {
	want := [][2]int64{{0, 4}, {1524, 8}, {6096, 12}, {30000, 16}}
	if got := Gains(); !slices.Equal(got, want) {
		t.Errorf("Gains = %v, not %v", got, want)
	}
	if !May(Gains()) {
		t.Error("Gains is no table")
	}
}

// P4.2: what the caller does to the gains, in them or behind them, is not seen in others.
func TestGainsAreNew(t *testing.T) {
	early, changed := Gains(), Gains()
	want := slices.Clone(early)
	for i := range changed {
		changed[i] = [2]int64{-1, 99}
	}
	changed = append(changed[:2], [2]int64{77, 77})
	for name, got := range map[string][][2]int64{"ahead": early, "behind": Gains()} {
		if !slices.Equal(got, want) {
			t.Errorf("the gains made %s of the change to %v are %v", name, changed, got)
		}
	}
	checkAt(t, Gains(), 762, 6, api.OK)
}

// P4.3: each point of a table is what it says.
func TestAtPoints(t *testing.T) {
	for _, l := range tables() {
		for _, p := range l {
			checkAt(t, l, p[0], p[1], api.OK)
		}
	}
}

// P4.3: between two points it is no further than either of theirs.
func TestBetweenTheirs(t *testing.T) {
	for _, l := range tables() {
		for i := 1; i < len(l); i++ {
			low, high := min(l[i-1][1], l[i][1]), max(l[i-1][1], l[i][1])
			for _, x := range asked(l[i-1 : i+1]) {
				if x <= l[i-1][0] || x >= l[i][0] {
					continue
				}
				got, errno := At(l, x)
				if errno == api.OK && (got < low || got > high) {
					t.Errorf("At(%v, %d) = %d, not between %d and %d", l, x, got, low, high)
				}
			}
		}
	}
}

// What is handed in stays as it is, the room behind its end too.
func TestListsStay(t *testing.T) {
	for _, l := range tables() {
		room := append(slices.Clone(l), [2]int64{-3, -3}, [2]int64{least, greatest})
		want := slices.Clone(room)
		handed := room[:len(l)]
		May(handed)
		for _, x := range asked(l) {
			At(handed, x)
		}
		if !slices.Equal(room, want) {
			t.Errorf("%v became %v", want, room)
		}
	}
}
