package mid

import (
	"math"
	"math/big"
	"slices"
	"testing"
)

const (
	least    = math.MinInt64
	greatest = math.MaxInt64
)

// edges are numbers around which a sum or a difference runs over, a sign turns, or a half is no whole number.
func edges() []int64 {
	around := []int64{least, least / 2, -1 << 32, -1000, 0, 1000, 1 << 32, greatest / 2, greatest}
	var all []int64
	for _, n := range around {
		for d := int64(-3); d <= 3; d++ {
			if (d < 0 && n < least-d) || (d > 0 && n > greatest-d) {
				continue
			}
			all = append(all, n+d)
		}
	}
	return all
}

// orders are the six orders of three numbers.
func orders(a, b, c int64) [][3]int64 {
	return [][3]int64{{a, b, c}, {a, c, b}, {b, a, c}, {b, c, a}, {c, a, b}, {c, b, a}}
}

// sortedMiddle tells the middle as the second of three in their order.
func sortedMiddle(l [3]int64) int64 {
	slices.Sort(l[:])
	return l[1]
}

// bigAverage tells the average by numbers that have no ends: the greatest whole number not above half of the sum.
func bigAverage(a, b int64) int64 {
	sum := new(big.Int).Add(big.NewInt(a), big.NewInt(b))
	// Of a positive divisor, Div goes down, not towards 0.
	return sum.Div(sum, big.NewInt(2)).Int64()
}

// bigFar tells Far by numbers that have no ends.
func bigFar(a, b, apart int64) bool {
	difference := new(big.Int).Sub(big.NewInt(a), big.NewInt(b))
	return difference.Abs(difference).Cmp(big.NewInt(apart)) > 0
}

// P9.1, P9.3: three numbers in each of their orders, with two and with three equal ones, and at the ends.
func TestMiddle(t *testing.T) {
	for _, c := range []struct{ low, middle, high int64 }{
		// The chapter's examples.
		{-1, 5, 9},
		{2, 2, 7},
		{2, 7, 7},
		{1, 2, 3},
		{-3, -2, -1},
		{-9, 0, 4},
		{4, 4, 4},
		{0, 0, 0},
		{-4, -4, -4},
		{-4, -4, 3},
		{-4, 3, 3},
		{0, 0, 1},
		{-1, 0, 0},
		{least, 0, greatest},
		{least, least, greatest},
		{least, greatest, greatest},
		{least, least, least},
		{greatest, greatest, greatest},
		{least, least + 1, least + 2},
		{greatest - 2, greatest - 1, greatest},
		{least, -1, greatest},
		{least, least + 1, greatest},
		{least, greatest - 1, greatest},
	} {
		for _, o := range orders(c.low, c.middle, c.high) {
			if got := Middle(o[0], o[1], o[2]); got != c.middle {
				t.Errorf("Middle(%d, %d, %d) = %d, not %d", o[0], o[1], o[2], got, c.middle)
			}
		}
	}
}

// P9.1: as the second in the order of the three.
func TestMiddleAgainstSort(t *testing.T) {
	for _, a := range edges() {
		for _, b := range edges() {
			for _, c := range edges() {
				if got, want := Middle(a, b, c), sortedMiddle([3]int64{a, b, c}); got != want {
					t.Fatalf("Middle(%d, %d, %d) = %d, not %d", a, b, c, got, want)
				}
			}
		}
	}
}

// P9.1, P9.3: sums that are even and odd, below 0 and above it, of one sign and of both, and both ends; either way round.
func TestAverage(t *testing.T) {
	for _, c := range []struct{ a, b, want int64 }{
		// The chapter's examples.
		{-3, 0, -2},
		{greatest, greatest - 2, greatest - 1},
		{4, 6, 5},
		{3, 0, 1},
		{4, 7, 5},
		{-4, -6, -5},
		{-4, -7, -6},
		{-5, -6, -6},
		{-5, 6, 0},
		{-6, 5, -1},
		{-6, 6, 0},
		{-9, 4, -3},
		{9, -4, 2},
		{-1, 0, -1},
		{1, 0, 0},
		{-1, 1, 0},
		{-1, 2, 0},
		{-2, 1, -1},
		{0, 0, 0},
		{7, 7, 7},
		{-3, -3, -3},
		{greatest, greatest, greatest},
		{greatest, greatest - 1, greatest - 1},
		{greatest, 1, 1 << 62},
		{greatest, 0, greatest / 2},
		{least, least, least},
		{least, least + 1, least},
		{least, least + 2, least + 1},
		{least, 0, least / 2},
		{least, -1, least/2 - 1},
		{least, greatest, -1},
		{least + 1, greatest, 0},
		{least, greatest - 1, -1},
		{least, greatest - 2, -2},
	} {
		if got := Average(c.a, c.b); got != c.want {
			t.Errorf("Average(%d, %d) = %d, not %d", c.a, c.b, got, c.want)
		}
		if got := Average(c.b, c.a); got != c.want {
			t.Errorf("Average(%d, %d) = %d, not %d", c.b, c.a, got, c.want)
		}
	}
}

// P9.1: as numbers without ends tell it.
func TestAverageAgainstBig(t *testing.T) {
	for _, a := range edges() {
		for _, b := range edges() {
			if got, want := Average(a, b), bigAverage(a, b); got != want {
				t.Errorf("Average(%d, %d) = %d, not %d", a, b, got, want)
			}
		}
	}
}

// P9.1, P9.3: a difference that is apart, one more and no int64, and an apart of 0, below 0 and at the ends; either way round.
func TestFar(t *testing.T) {
	for _, c := range []struct {
		a, b, apart int64
		want        bool
	}{
		// The chapter's examples.
		{least, 1, 5, true},
		{3, 8, 5, false},
		{3, 9, 5, true},
		{3, 7, 5, false},
		{-3, -8, 5, false},
		{-3, -9, 5, true},
		{-2, 3, 5, false},
		{-2, 4, 5, true},
		{3, 3, 5, false},
		{3, 3, 0, false},
		{3, 4, 0, true},
		{-3, -4, 0, true},
		{0, 0, 0, false},
		{least, least, 0, false},
		{greatest, greatest, 0, false},
		{least, least + 1, 0, true},
		{greatest - 1, greatest, 0, true},
		{3, 3, -1, true},
		{3, 4, -1, true},
		{0, 0, least, true},
		{least, least, -1, true},
		{least, least, least, true},
		{greatest, greatest, -1, true},
		{greatest, greatest, least, true},
		{least, greatest, least, true},
		{least, least + 5, 5, false},
		{least, least + 6, 5, true},
		{greatest, greatest - 5, 5, false},
		{greatest, greatest - 6, 5, true},
		{greatest, greatest - 5, greatest, false},
		{0, 0, greatest, false},
		{greatest, 0, greatest, false},
		{greatest, 0, greatest - 1, true},
		{least + 1, 0, greatest, false},
		{least + 1, 0, greatest - 1, true},
		// No difference of these is an int64.
		{least, 0, greatest, true},
		{greatest, -1, greatest, true},
		{least, greatest, greatest, true},
		{least, greatest, 0, true},
		{least, greatest, 5, true},
		{least / 2, greatest/2 + 1, greatest, true},
		{least / 2, greatest / 2, greatest, false},
		{-2, greatest, 5, true},
	} {
		if got := Far(c.a, c.b, c.apart); got != c.want {
			t.Errorf("Far(%d, %d, %d) = %t, not %t", c.a, c.b, c.apart, got, c.want)
		}
		if got := Far(c.b, c.a, c.apart); got != c.want {
			t.Errorf("Far(%d, %d, %d) = %t, not %t", c.b, c.a, c.apart, got, c.want)
		}
	}
}

// P9.1: as numbers without ends tell it.
func TestFarAgainstBig(t *testing.T) {
	for _, a := range edges() {
		for _, b := range edges() {
			for _, apart := range edges() {
				if got, want := Far(a, b, apart), bigFar(a, b, apart); got != want {
					t.Fatalf("Far(%d, %d, %d) = %t, not %t", a, b, apart, got, want)
				}
			}
		}
	}
}

// P9.2: none, nil too, one, two, three and more.
func TestOf(t *testing.T) {
	for _, c := range []struct {
		l    []int64
		want int64
		is   bool
	}{
		// The chapter's examples.
		{[]int64{}, 0, false},
		{[]int64{4, 6}, 5, true},
		{nil, 0, false},
		{make([]int64, 0, 3), 0, false},
		{[]int64{4}, 4, true},
		{[]int64{0}, 0, true},
		{[]int64{-4}, -4, true},
		{[]int64{least}, least, true},
		{[]int64{greatest}, greatest, true},
		{[]int64{0, 0}, 0, true},
		{[]int64{-3, 0}, -2, true},
		{[]int64{0, -3}, -2, true},
		{[]int64{greatest, greatest - 2}, greatest - 1, true},
		{[]int64{least, greatest}, -1, true},
		{[]int64{9, 1, 4}, 4, true},
		{[]int64{1, 4, 9}, 4, true},
		{[]int64{4, 9, 1}, 4, true},
		{[]int64{2, 7, 2}, 2, true},
		{[]int64{3, 3, 3}, 3, true},
		{[]int64{greatest, 0, least}, 0, true},
		{[]int64{1, 2, 3, 4}, 0, false},
		{[]int64{5, 5, 5, 5}, 0, false},
		{[]int64{1, 2, 3, 4, 5}, 0, false},
		{make([]int64, 6), 0, false},
		{slices.Repeat([]int64{7}, 1000), 0, false},
	} {
		if got, is := Of(c.l); got != c.want || is != c.is {
			t.Errorf("Of(%d) = %d, %t, not %d, %t", c.l, got, is, c.want, c.is)
		}
	}
}

// P9.2: what is behind the end of a list does not count, and the list and the room behind its end stay as they are.
func TestOfLeavesTheList(t *testing.T) {
	whole := []int64{9, -1, 5, -7, 3}
	want := []struct {
		n  int64
		is bool
	}{{0, false}, {9, true}, {4, true}, {5, true}, {0, false}, {0, false}}
	for n := range len(whole) + 1 {
		room := slices.Clone(whole)
		if got, is := Of(room[:n]); got != want[n].n || is != want[n].is {
			t.Errorf("Of(%d) = %d, %t, not %d, %t", whole[:n], got, is, want[n].n, want[n].is)
		}
		if !slices.Equal(room, whole) {
			t.Errorf("Of of the first %d made %d of %d", n, room, whole)
		}
	}
}

// P9.3: what lies between is no less than the least and no more than the greatest.
func TestBetween(t *testing.T) {
	for _, a := range edges() {
		for _, b := range edges() {
			if got := Average(a, b); got < min(a, b) || got > max(a, b) {
				t.Errorf("Average(%d, %d) = %d, not between them", a, b, got)
			}
			for _, c := range edges() {
				if got := Middle(a, b, c); got < min(a, b, c) || got > max(a, b, c) {
					t.Fatalf("Middle(%d, %d, %d) = %d, not between them", a, b, c, got)
				}
			}
		}
	}
}

// P9.3: in whichever order the numbers come, they come to the same.
func TestOrderDoesNotCount(t *testing.T) {
	for _, a := range edges() {
		for _, b := range edges() {
			checkTwo(t, a, b)
			for _, c := range edges() {
				checkThree(t, a, b, c)
			}
		}
	}
}

func checkTwo(t *testing.T, a, b int64) {
	t.Helper()
	if Average(a, b) != Average(b, a) {
		t.Fatalf("Average(%d, %d) = %d, but the other way round %d", a, b, Average(a, b), Average(b, a))
	}
	one, _ := Of([]int64{a, b})
	other, _ := Of([]int64{b, a})
	if one != other {
		t.Fatalf("Of(%d, %d) = %d, but the other way round %d", a, b, one, other)
	}
	for _, apart := range []int64{least, -1, 0, 1, 1000, greatest - 1, greatest} {
		if Far(a, b, apart) != Far(b, a, apart) {
			t.Fatalf("Far(%d, %d, %d) = %t, but not the other way round", a, b, apart, Far(a, b, apart))
		}
	}
}

func checkThree(t *testing.T, a, b, c int64) {
	t.Helper()
	want := Middle(a, b, c)
	for _, o := range orders(a, b, c) {
		if got := Middle(o[0], o[1], o[2]); got != want {
			t.Fatalf("Middle(%d, %d, %d) = %d, but %d of %d, %d, %d", o[0], o[1], o[2], got, want, a, b, c)
		}
		if got, is := Of(o[:]); got != want || !is {
			t.Fatalf("Of(%d) = %d, %t, but %d of %d, %d, %d", o, got, is, want, a, b, c)
		}
	}
}
