package num

import (
	"math"
	"math/big"
	"testing"

	"flarepath/api"
)

const (
	least    = math.MinInt64
	greatest = math.MaxInt64
)

// edges are numbers around which a sum, product or bound turns.
func edges() []int64 {
	around := []int64{
		least, least / 2, -1 << 32, -3037000500, -1 << 31, -1000, 0,
		1000, 1 << 31, 3037000500, 1 << 32, greatest / 2, greatest,
	}
	var all []int64
	for _, n := range around {
		for d := int64(-2); d <= 2; d++ {
			if (d < 0 && n < least-d) || (d > 0 && n > greatest-d) {
				continue
			}
			all = append(all, n+d)
		}
	}
	return all
}

// ofBig tells a great number as an int64, stopped at its ends, and whether it is one.
func ofBig(n *big.Int) (int64, bool) {
	if n.IsInt64() {
		return n.Int64(), true
	}
	if n.Sign() < 0 {
		return least, false
	}
	return greatest, false
}

// bigNear tells Near by numbers that have no ends.
func bigNear(from, to, step int64) int64 {
	if step < 0 {
		return from
	}
	way := new(big.Int).Sub(big.NewInt(to), big.NewInt(from))
	most := big.NewInt(step)
	if way.CmpAbs(most) <= 0 {
		return to
	}
	if way.Sign() < 0 {
		most.Neg(most)
	}
	return new(big.Int).Add(big.NewInt(from), most).Int64()
}

// P1.1: ordinary sums and both ends.
func TestAdd(t *testing.T) {
	for _, c := range []struct{ a, b, want int64 }{
		// The chapter's example.
		{greatest, 1, greatest},
		{2, 3, 5},
		{-2, 3, 1},
		{0, 0, 0},
		{greatest, 0, greatest},
		{greatest - 1, 1, greatest},
		{1, greatest, greatest},
		{greatest, greatest, greatest},
		{least, 0, least},
		{least + 1, -1, least},
		{least, -1, least},
		{-1, least, least},
		{least, least, least},
		{greatest, least, -1},
		{least, greatest, -1},
	} {
		if got := Add(c.a, c.b); got != c.want {
			t.Errorf("Add(%d, %d) = %d, not %d", c.a, c.b, got, c.want)
		}
	}
}

// P1.1: ordinary differences and both ends.
func TestSub(t *testing.T) {
	for _, c := range []struct{ a, b, want int64 }{
		// The chapter's example.
		{least, 1, least},
		{5, 3, 2},
		{3, 5, -2},
		{0, 0, 0},
		{least + 1, 1, least},
		{greatest, -1, greatest},
		{greatest - 1, -1, greatest},
		{0, least, greatest},
		{-1, least, greatest},
		{-2, least, greatest - 1},
		{1, least, greatest},
		{greatest, least, greatest},
		{least, greatest, least},
		{-2, greatest, least},
		{-1, greatest, least},
		{least, least, 0},
		{greatest, greatest, 0},
	} {
		if got := Sub(c.a, c.b); got != c.want {
			t.Errorf("Sub(%d, %d) = %d, not %d", c.a, c.b, got, c.want)
		}
	}
}

// P1.1: as numbers without ends tell it, then stopped.
func TestAddAndSubAgainstBig(t *testing.T) {
	for _, a := range edges() {
		for _, b := range edges() {
			x, y := big.NewInt(a), big.NewInt(b)
			if want, _ := ofBig(new(big.Int).Add(x, y)); Add(a, b) != want {
				t.Errorf("Add(%d, %d) = %d, not %d", a, b, Add(a, b), want)
			}
			if want, _ := ofBig(new(big.Int).Sub(x, y)); Sub(a, b) != want {
				t.Errorf("Sub(%d, %d) = %d, not %d", a, b, Sub(a, b), want)
			}
		}
	}
}

// P1.2: ordinary products, the last ones that are numbers, and the first ones that are none.
func TestMul(t *testing.T) {
	for _, c := range []struct {
		a, b, want int64
		errno      api.Errno
	}{
		// The chapter's example.
		{1 << 32, 1 << 31, 0, api.ErrRange},
		{6, 7, 42, api.OK},
		{-3, 7, -21, api.OK},
		{3, -7, -21, api.OK},
		{-3, -7, 21, api.OK},
		{0, least, 0, api.OK},
		{greatest, 0, 0, api.OK},
		{1 << 32, -1 << 31, least, api.OK},
		{-1 << 32, 1 << 31, least, api.OK},
		{-1 << 32, -1 << 31, 0, api.ErrRange},
		{1 << 32, -1<<31 - 1, 0, api.ErrRange},
		{least, 1, least, api.OK},
		{1, least, least, api.OK},
		{least, -1, 0, api.ErrRange},
		{-1, least, 0, api.ErrRange},
		{greatest, -1, -greatest, api.OK},
		{greatest, 1, greatest, api.OK},
		{greatest, 2, 0, api.ErrRange},
		{greatest, greatest, 0, api.ErrRange},
		{least, least, 0, api.ErrRange},
		{least, greatest, 0, api.ErrRange},
	} {
		got, errno := Mul(c.a, c.b)
		if got != c.want || errno != c.errno {
			t.Errorf("Mul(%d, %d) = %d, %d, not %d, %d", c.a, c.b, got, errno, c.want, c.errno)
		}
	}
}

// P1.2: ordinary quotients, a b of 0, and the one quotient that is no int64.
func TestDiv(t *testing.T) {
	for _, c := range []struct {
		a, b, want int64
		errno      api.Errno
	}{
		// The chapter's examples.
		{-7, 2, -3, api.OK},
		{1, 0, 0, api.ErrArg},
		{least, -1, 0, api.ErrRange},
		{7, 2, 3, api.OK},
		{7, -2, -3, api.OK},
		{-7, -2, 3, api.OK},
		{6, 3, 2, api.OK},
		{0, 5, 0, api.OK},
		{1, 2, 0, api.OK},
		{-1, 2, 0, api.OK},
		{0, 0, 0, api.ErrArg},
		{least, 0, 0, api.ErrArg},
		{greatest, 0, 0, api.ErrArg},
		{least, 1, least, api.OK},
		{least + 1, -1, greatest, api.OK},
		{greatest, -1, -greatest, api.OK},
		{least, least, 1, api.OK},
		{greatest, least, 0, api.OK},
		{least, greatest, -1, api.OK},
	} {
		got, errno := Div(c.a, c.b)
		if got != c.want || errno != c.errno {
			t.Errorf("Div(%d, %d) = %d, %d, not %d, %d", c.a, c.b, got, errno, c.want, c.errno)
		}
	}
}

// P1.2: as numbers without ends tell it; beside an error stands 0.
func TestMulAndDivAgainstBig(t *testing.T) {
	for _, a := range edges() {
		for _, b := range edges() {
			x, y := big.NewInt(a), big.NewInt(b)
			checkBig(t, "Mul", a, b, new(big.Int).Mul(x, y), Mul)
			if b != 0 {
				checkBig(t, "Div", a, b, new(big.Int).Quo(x, y), Div)
			}
		}
	}
}

func checkBig(t *testing.T, name string, a, b int64, whole *big.Int, call func(a, b int64) (int64, api.Errno)) {
	t.Helper()
	want, is := ofBig(whole)
	wantErrno := api.OK
	if !is {
		want, wantErrno = 0, api.ErrRange
	}
	if got, errno := call(a, b); got != want || errno != wantErrno {
		t.Errorf("%s(%d, %d) = %d, %d, not %d, %d", name, a, b, got, errno, want, wantErrno)
	}
}

// P1.3: both bounds, a most of 0, and a most below 0.
func TestClamp(t *testing.T) {
	for _, c := range []struct{ n, most, want int64 }{
		// The chapter's examples.
		{-9, 5, -5},
		{9, -1, 0},
		{9, 5, 5},
		{3, 5, 3},
		{-3, 5, -3},
		{5, 5, 5},
		{-5, 5, -5},
		{6, 5, 5},
		{-6, 5, -5},
		{7, 0, 0},
		{-7, 0, 0},
		{-9, -1, 0},
		{0, -1, 0},
		{9, least, 0},
		{least, least, 0},
		{least, greatest, -greatest},
		{greatest, greatest, greatest},
	} {
		if got := Clamp(c.n, c.most); got != c.want {
			t.Errorf("Clamp(%d, %d) = %d, not %d", c.n, c.most, got, c.want)
		}
	}
}

// P1.3: both bounds, bounds that are one, and a low above high.
func TestWithin(t *testing.T) {
	for _, c := range []struct{ n, low, high, want int64 }{
		// The chapter's example.
		{5, 8, 3, 8},
		{5, 3, 8, 5},
		{1, 3, 8, 3},
		{9, 3, 8, 8},
		{3, 3, 8, 3},
		{8, 3, 8, 8},
		{2, 4, 4, 4},
		{6, 4, 4, 4},
		{1, 8, 3, 8},
		{9, 8, 3, 8},
		{8, 8, 3, 8},
		{0, greatest, least, greatest},
		{least, least, greatest, least},
		{greatest, least, greatest, greatest},
	} {
		if got := Within(c.n, c.low, c.high); got != c.want {
			t.Errorf("Within(%d, %d, %d) = %d, not %d", c.n, c.low, c.high, got, c.want)
		}
	}
}

// P1.3: up and down, a step that reaches to and one that does not, a step of 0 and one below 0, both ends.
func TestNear(t *testing.T) {
	for _, c := range []struct{ from, to, step, want int64 }{
		// The chapter's examples.
		{3, 10, 4, 7},
		{3, -1, 2, 1},
		{3, 4, 9, 4},
		{3, 10, 7, 10},
		{3, -1, 4, -1},
		{3, -1, 9, -1},
		{5, 5, 0, 5},
		{5, 5, 3, 5},
		{3, 9, 0, 3},
		{3, 9, -1, 3},
		{9, 3, -1, 9},
		{3, 9, least, 3},
		{5, 5, -1, 5},
		{least, greatest, greatest, -1},
		{greatest, least, greatest, 0},
		{greatest, least, 1, greatest - 1},
		{greatest - 1, greatest, greatest, greatest},
		{least + 1, least, greatest, least},
	} {
		if got := Near(c.from, c.to, c.step); got != c.want {
			t.Errorf("Near(%d, %d, %d) = %d, not %d", c.from, c.to, c.step, got, c.want)
		}
	}
}

// P1.3: as numbers without ends tell it.
func TestNearAgainstBig(t *testing.T) {
	for _, from := range edges() {
		for _, to := range edges() {
			for _, step := range edges() {
				if got, want := Near(from, to, step), bigNear(from, to, step); got != want {
					t.Fatalf("Near(%d, %d, %d) = %d, not %d", from, to, step, got, want)
				}
			}
		}
	}
}

// P1.4: of a greater a the sum and the difference are no lesser ones.
func TestAddAndSubRise(t *testing.T) {
	for _, b := range edges() {
		for _, a := range edges() {
			if a == greatest {
				continue
			}
			if Add(a, b) > Add(a+1, b) {
				t.Errorf("Add(%d, %d) = %d, above Add of the next a", a, b, Add(a, b))
			}
			if Sub(a, b) > Sub(a+1, b) {
				t.Errorf("Sub(%d, %d) = %d, above Sub of the next a", a, b, Sub(a, b))
			}
		}
	}
}

// P1.4: what Near tells lies between from and to, both among them.
func TestNearStopsAtTo(t *testing.T) {
	for _, from := range edges() {
		for _, to := range edges() {
			for _, step := range edges() {
				if got := Near(from, to, step); got < min(from, to) || got > max(from, to) {
					t.Fatalf("Near(%d, %d, %d) = %d, not between them", from, to, step, got)
				}
			}
		}
	}
}
