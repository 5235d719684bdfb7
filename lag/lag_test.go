package lag

import (
	"math"
	"math/big"
	"testing"

	"flarepath/api"
)

const (
	least    = math.MinInt64
	greatest = math.MaxInt64
	most     = api.MaxFixed
	longest  = api.MaxLag
)

// edges are numbers around which a bound or a quotient by a lag turns.
func edges() []int64 {
	around := []int64{
		least, -2 * most, -most, -most / 2, -2 * longest, -longest, -10, 0,
		10, longest, 2 * longest, most / 2, most, 2 * most, greatest,
	}
	var all []int64
	for _, n := range around {
		for d := int64(-2); d <= 2; d++ {
			if (d < 0 && n < least-d) || (d > 0 && n > greatest-d) {
				continue
			}
			all = append(all, n+d)
		}
	}
	return all
}

// inside are the edges that x and target may be.
func inside() []int64 {
	var all []int64
	for _, n := range edges() {
		if bigMay(n) {
			all = append(all, n)
		}
	}
	return all
}

func lags() []int64 {
	return []int64{1, 2, 3, 4, 10, 511, 512, 513, longest - 1, longest}
}

func wrongLags() []int64 {
	return []int64{least, -longest, -1, 0, longest + 1, 2 * longest, greatest}
}

func bigMay(n int64) bool {
	return new(big.Int).Abs(big.NewInt(n)).Cmp(big.NewInt(most)) <= 0
}

// bigNext tells Next by numbers that have no ends; its arguments may be.
func bigNext(x, target, k int64) int64 {
	way := new(big.Int).Sub(big.NewInt(target), big.NewInt(x))
	step := new(big.Int).Quo(way, big.NewInt(k))
	if step.Sign() == 0 {
		step.SetInt64(int64(way.Sign()))
	}
	return step.Add(step, big.NewInt(x)).Int64()
}

// bigLimit tells Limit by numbers that have no ends; its arguments may be.
func bigLimit(x, target, k, step int64) int64 {
	way := new(big.Int).Sub(big.NewInt(bigNext(x, target, k)), big.NewInt(x))
	limit := big.NewInt(step)
	if way.CmpAbs(limit) > 0 {
		way = limit.Mul(limit, big.NewInt(int64(way.Sign())))
	}
	return way.Add(way, big.NewInt(x)).Int64()
}

// P3.1: both sides of the target, a difference that the division makes 0, each argument at its ends and beyond them.
func TestNext(t *testing.T) {
	for _, c := range []struct {
		x, target, k, want int64
		errno              api.Errno
	}{
		// The chapter's examples.
		{0, 10, 4, 2, api.OK},
		{9, 10, 4, 10, api.OK},
		{10, 0, 4, 8, api.OK},
		{5, 5, 4, 5, api.OK},
		{0, 1, 0, 0, api.ErrArg},
		{0, -10, 4, -2, api.OK},
		{-10, 0, 4, -8, api.OK},
		{-3, 9, 4, 0, api.OK},
		{9, -3, 4, 6, api.OK},
		{0, 11, 4, 2, api.OK},
		{0, -11, 4, -2, api.OK},
		{0, 12, 4, 3, api.OK},
		// The division makes these differences 0, and the last one of each side it does not.
		{10, 9, 4, 9, api.OK},
		{7, 10, 4, 8, api.OK},
		{10, 7, 4, 9, api.OK},
		{-1, 0, longest, 0, api.OK},
		{1, 0, longest, 0, api.OK},
		{0, longest - 1, longest, 1, api.OK},
		{0, 1 - longest, longest, -1, api.OK},
		{0, longest, longest, 1, api.OK},
		{0, 2*longest - 1, longest, 1, api.OK},
		{0, 2 * longest, longest, 2, api.OK},
		{0, -2 * longest, longest, -2, api.OK},
		{0, 0, 1, 0, api.OK},
		{0, 100, 1, 100, api.OK},
		{100, -100, 1, -100, api.OK},
		{-most, most, 1, most, api.OK},
		{most, -most, 1, -most, api.OK},
		{-most, most, longest, -most + 1<<31, api.OK},
		{most, -most, longest, most - 1<<31, api.OK},
		{most, most, longest, most, api.OK},
		{-most, -most, 1, -most, api.OK},
		{most - 1, most, longest, most, api.OK},
		{1 - most, -most, longest, -most, api.OK},
		{0, 1, -1, 0, api.ErrArg},
		{0, 1, longest + 1, 0, api.ErrArg},
		{0, 1, least, 0, api.ErrArg},
		{0, 1, greatest, 0, api.ErrArg},
		{5, 5, 0, 0, api.ErrArg},
		{most + 1, 0, 4, 0, api.ErrArg},
		{-most - 1, 0, 4, 0, api.ErrArg},
		{0, most + 1, 4, 0, api.ErrArg},
		{0, -most - 1, 4, 0, api.ErrArg},
		{most + 1, most + 1, 1, 0, api.ErrArg},
		{least, greatest, 1, 0, api.ErrArg},
		{greatest, least, 1, 0, api.ErrArg},
		{least, 0, 0, 0, api.ErrArg},
	} {
		if got, errno := Next(c.x, c.target, c.k); got != c.want || errno != c.errno {
			t.Errorf("Next(%d, %d, %d) = %d, %d, not %d, %d", c.x, c.target, c.k, got, errno, c.want, c.errno)
		}
	}
}

// P3.1: as numbers without ends tell it; beside an error stands 0.
func TestNextAgainstBig(t *testing.T) {
	for _, x := range edges() {
		for _, target := range edges() {
			for _, k := range lags() {
				want, wantErrno := int64(0), api.ErrArg
				if bigMay(x) && bigMay(target) {
					want, wantErrno = bigNext(x, target, k), api.OK
				}
				if got, errno := Next(x, target, k); got != want || errno != wantErrno {
					t.Fatalf("Next(%d, %d, %d) = %d, %d, not %d, %d", x, target, k, got, errno, want, wantErrno)
				}
			}
			for _, k := range wrongLags() {
				if got, errno := Next(x, target, k); got != 0 || errno != api.ErrArg {
					t.Fatalf("Next(%d, %d, %d) = %d, %d, not 0, ErrArg", x, target, k, got, errno)
				}
			}
		}
	}
}

// P3.1: a step that holds Next back and one that does not, a step of 0 and one below 0, and what Next refuses.
func TestLimit(t *testing.T) {
	for _, c := range []struct {
		x, target, k, step, want int64
		errno                    api.Errno
	}{
		// The chapter's example.
		{0, 100, 2, 7, 7, api.OK},
		{0, -100, 2, 7, -7, api.OK},
		{100, 0, 2, 7, 93, api.OK},
		{0, 100, 20, 7, 5, api.OK},
		{0, -100, 20, 7, -5, api.OK},
		{0, 100, 2, 49, 49, api.OK},
		{0, 100, 2, 50, 50, api.OK},
		{0, 100, 2, 51, 50, api.OK},
		{9, 10, 4, 1, 10, api.OK},
		{10, 9, 4, 1, 9, api.OK},
		{9, 10, 4, 0, 9, api.OK},
		{10, 9, 4, 0, 10, api.OK},
		{4, 9, 1, 0, 4, api.OK},
		{5, 5, 4, 0, 5, api.OK},
		{5, 5, 4, 7, 5, api.OK},
		{0, 100, 1, greatest, 100, api.OK},
		{0, -100, 1, greatest, -100, api.OK},
		{-most, most, 1, greatest, most, api.OK},
		{most, -most, 1, greatest, -most, api.OK},
		{-most, most, 1, 2*most - 1, most - 1, api.OK},
		{most, -most, 1, 1, most - 1, api.OK},
		{most, -most, longest, 1 << 31, most - 1<<31, api.OK},
		{0, 1, 1, -1, 0, api.ErrArg},
		{5, 5, 4, -1, 0, api.ErrArg},
		{5, 9, 4, least, 0, api.ErrArg},
		{5, 9, 0, 1, 0, api.ErrArg},
		{5, 9, -1, 1, 0, api.ErrArg},
		{5, 9, longest + 1, 1, 0, api.ErrArg},
		{5, 9, longest, 1, 6, api.OK},
		{most + 1, 9, 4, 0, 0, api.ErrArg},
		{-most - 1, 9, 4, 0, 0, api.ErrArg},
		{9, most + 1, 4, 0, 0, api.ErrArg},
		{9, -most - 1, 4, 0, 0, api.ErrArg},
		{least, greatest, 1, greatest, 0, api.ErrArg},
	} {
		if got, errno := Limit(c.x, c.target, c.k, c.step); got != c.want || errno != c.errno {
			t.Errorf("Limit(%d, %d, %d, %d) = %d, %d, not %d, %d", c.x, c.target, c.k, c.step, got, errno, c.want, c.errno)
		}
	}
}

// P3.1: as numbers without ends tell it; beside an error stands 0.
func TestLimitAgainstBig(t *testing.T) {
	for _, x := range edges() {
		for _, target := range edges() {
			for _, k := range []int64{0, 1, 4, longest, longest + 1} {
				for _, step := range []int64{least, -1, 0, 1, 7, 1 << 31, most, 2*most - 1, 2 * most, greatest} {
					want, wantErrno := int64(0), api.ErrArg
					if bigMay(x) && bigMay(target) && 1 <= k && k <= longest && step >= 0 {
						want, wantErrno = bigLimit(x, target, k, step), api.OK
					}
					if got, errno := Limit(x, target, k, step); got != want || errno != wantErrno {
						t.Fatalf("Limit(%d, %d, %d, %d) = %d, %d, not %d, %d", x, target, k, step, got, errno, want, wantErrno)
					}
				}
			}
		}
	}
}

// P3.2: a most that is what it takes, one more and one less, its ends and those beyond them, and what may not be asked.
func TestFrames(t *testing.T) {
	for _, c := range []struct {
		x, target, k int64
		most, want   int
		is           bool
	}{
		// The chapter's examples.
		{0, 10, 4, 9, 8, true},
		{0, 10, 4, 7, 0, false},
		{0, 10, 4, 8, 8, true},
		{10, 0, 4, 8, 8, true},
		{10, 0, 4, 7, 0, false},
		{0, 10, 4, api.MaxCount, 8, true},
		{0, 10, 4, api.MaxCount + 1, 0, false},
		{0, 10, 4, math.MaxInt, 0, false},
		{0, 10, 4, 0, 0, false},
		{0, 10, 4, -1, 0, false},
		{0, 10, 4, math.MinInt, 0, false},
		// At the target already.
		{3, 3, 5, 0, 0, true},
		{3, 3, 5, 9, 0, true},
		{3, 3, 5, api.MaxCount, 0, true},
		{3, 3, 5, -1, 0, false},
		{3, 3, 5, api.MaxCount + 1, 0, false},
		{most, most, longest, 0, 0, true},
		{-most, -most, longest, 0, 0, true},
		{-most, most, 1, 1, 1, true},
		{most, -most, 1, 1, 1, true},
		{-most, most, 1, 0, 0, false},
		{4, 5, longest, 1, 1, true},
		{5, 4, longest, 1, 1, true},
		{5, 4, longest, 0, 0, false},
		{0, 2*longest - 1, longest, 2*longest - 1, 2*longest - 1, true},
		{0, 2*longest - 1, longest, 2*longest - 2, 0, false},
		{0, 1 - 2*longest, longest, 2*longest - 1, 2*longest - 1, true},
		{0, 2 * longest, longest, api.MaxCount, 2*longest - 1, true},
		// What may not be asked, at the target or not.
		{0, 10, 0, 9, 0, false},
		{3, 3, 0, 9, 0, false},
		{3, 3, -1, 9, 0, false},
		{3, 3, longest + 1, 9, 0, false},
		{most + 1, most + 1, 1, 9, 0, false},
		{-most - 1, -most - 1, 1, 9, 0, false},
		{most + 1, most, 1, 9, 0, false},
		{most, most + 1, 1, 9, 0, false},
		{-most - 1, -most, 1, 9, 0, false},
		{-most, -most - 1, 1, 9, 0, false},
		{least, greatest, 1, 9, 0, false},
	} {
		if got, is := Frames(c.x, c.target, c.k, c.most); got != c.want || is != c.is {
			t.Errorf("Frames(%d, %d, %d, %d) = %d, %t, not %d, %t", c.x, c.target, c.k, c.most, got, is, c.want, c.is)
		}
	}
}

// countNexts tells how many Nexts come to the target, and gives up where it would be more than Frames may tell.
func countNexts(t *testing.T, x, target, k int64) int {
	t.Helper()
	at := x
	for n := 0; n <= api.MaxCount; n++ {
		if at == target {
			return n
		}
		next, errno := Next(at, target, k)
		if errno != api.OK {
			t.Fatalf("Next(%d, %d, %d) tells %d", at, target, k, errno)
		}
		if !nearer(at, next, target) {
			t.Fatalf("Next(%d, %d, %d) = %d, which is past the target, away from it, or where it was", at, target, k, next)
		}
		at = next
	}
	t.Fatalf("Next does not reach %d from %d by %d", target, x, k)
	return 0
}

// nearer tells whether next lies behind at and no further than target, seen from at.
func nearer(at, next, target int64) bool {
	if at < target {
		return at < next && next <= target
	}
	return target <= next && next < at
}

// P3.2, P3.3: Frames counts the Nexts, with just enough of them and with one too few;
// each Next comes nearer, none goes past the target, and the last one reaches it.
func TestFramesCountsNexts(t *testing.T) {
	starts := []int64{-most, -most + 1, -1 << 31, -1000, -1, 0, 1, 7, 1000, 1 << 20, most - 1, most}
	for _, x := range starts {
		for _, target := range starts {
			for _, k := range []int64{1, 2, 3, 4, 100, longest - 1, longest} {
				want := countNexts(t, x, target, k)
				if got, is := Frames(x, target, k, want); got != want || !is {
					t.Errorf("Frames(%d, %d, %d, %d) = %d, %t, not as many", x, target, k, want, got, is)
				}
				if got, is := Frames(x, target, k, api.MaxCount); got != want || !is {
					t.Errorf("Frames(%d, %d, %d, MaxCount) = %d, %t, not %d", x, target, k, got, is, want)
				}
				if got, is := Frames(x, target, k, want-1); got != 0 || is {
					t.Errorf("Frames(%d, %d, %d, %d) = %d, %t, not no", x, target, k, want-1, got, is)
				}
			}
		}
	}
}

// P3.3: at the target Next stays, and from everywhere else it comes nearer, no further than the target.
func TestNextComesNearer(t *testing.T) {
	for _, x := range inside() {
		for _, target := range inside() {
			for _, k := range lags() {
				got, errno := Next(x, target, k)
				if errno != api.OK {
					t.Fatalf("Next(%d, %d, %d) tells %d", x, target, k, errno)
				}
				if x == target && got != x || x != target && !nearer(x, got, target) {
					t.Fatalf("Next(%d, %d, %d) = %d, past the target, or away from it", x, target, k, got)
				}
			}
		}
	}
}

// P3.3: what follows is the same on both sides of 0.
func TestNextIsTheSameOnBothSides(t *testing.T) {
	for _, x := range inside() {
		for _, target := range inside() {
			for _, k := range lags() {
				up, _ := Next(x, target, k)
				down, _ := Next(-x, -target, k)
				if up != -down {
					t.Fatalf("Next(%d, %d, %d) = %d, and of their negatives %d", x, target, k, up, down)
				}
			}
		}
	}
}
