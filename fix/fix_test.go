package fix

import (
	"math"
	"math/big"
	"testing"

	"flarepath/api"
)

const (
	least    = math.MinInt64
	greatest = math.MaxInt64
	one      = api.One
	most     = api.MaxFixed
)

// edges are numbers around which a product, a quotient or a bound turns.
func edges() []int64 {
	around := []int64{
		least, -1 << 47, -most, -1 << 39, -1 << 24, -1 << 23, -one, -one / 2, -1000, 0,
		1000, one / 2, one, 1 << 23, 1 << 24, 1 << 39, most, 1 << 47, greatest,
	}
	var all []int64
	for _, n := range around {
		for d := int64(-2); d <= 2; d++ {
			if (d < 0 && n < least-d) || (d > 0 && n > greatest-d) {
				continue
			}
			all = append(all, n+d)
		}
	}
	return all
}

// bigScaled tells a by times, by over, by numbers that have no ends; over is not 0.
func bigScaled(a, times, over int64) (int64, api.Errno) {
	between := new(big.Int).Mul(big.NewInt(a), big.NewInt(times))
	n := new(big.Int).Quo(between, big.NewInt(over))
	if !between.IsInt64() || n.CmpAbs(big.NewInt(most)) > 0 {
		return 0, api.ErrRange
	}
	return n.Int64(), api.OK
}

func bigMay(a int64) bool {
	return big.NewInt(a).CmpAbs(big.NewInt(most)) <= 0
}

// P2.1: both ends of the numbers that may be, and the first ones beyond them.
func TestMay(t *testing.T) {
	for _, c := range []struct {
		a    int64
		want bool
	}{
		{0, true},
		{1, true},
		{-1, true},
		{most - 1, true},
		{most, true},
		{most + 1, false},
		{-most + 1, true},
		{-most, true},
		{-most - 1, false},
		{greatest, false},
		{least, false},
	} {
		if got := May(c.a); got != c.want {
			t.Errorf("May(%d) = %t, not %t", c.a, got, c.want)
		}
	}
	for _, a := range edges() {
		if got := May(a); got != bigMay(a) {
			t.Errorf("May(%d) = %t, not %t", a, got, bigMay(a))
		}
	}
}

// P2.1: ordinary numbers, the last ones that may be, the first ones that may not, and what runs over an int64.
func TestOf(t *testing.T) {
	for _, c := range []struct {
		n, want int64
		errno   api.Errno
	}{
		// The chapter's examples.
		{3, 196608, api.OK},
		{1 << 30, 0, api.ErrRange},
		{0, 0, api.OK},
		{1, one, api.OK},
		{-3, -196608, api.OK},
		{1 << 24, most, api.OK},
		{1<<24 + 1, 0, api.ErrRange},
		{-1 << 24, -most, api.OK},
		{-1<<24 - 1, 0, api.ErrRange},
		{1 << 47, 0, api.ErrRange},
		{-1 << 47, 0, api.ErrRange},
		{1 << 48, 0, api.ErrRange},
		{-1 << 48, 0, api.ErrRange},
		{greatest, 0, api.ErrRange},
		{least, 0, api.ErrRange},
	} {
		if got, errno := Of(c.n); got != c.want || errno != c.errno {
			t.Errorf("Of(%d) = %d, %d, not %d, %d", c.n, got, errno, c.want, c.errno)
		}
	}
	for _, n := range edges() {
		want, wantErrno := bigScaled(n, one, 1)
		if got, errno := Of(n); got != want || errno != wantErrno {
			t.Errorf("Of(%d) = %d, %d, not %d, %d", n, got, errno, want, wantErrno)
		}
	}
}

// P2.1: towards 0 from both sides, and of numbers that may not be as well.
func TestWhole(t *testing.T) {
	for _, c := range []struct{ a, want int64 }{
		// The chapter's example.
		{-98304, -1},
		{98304, 1},
		{0, 0},
		{1, 0},
		{-1, 0},
		{one - 1, 0},
		{one, 1},
		{one + 1, 1},
		{-one + 1, 0},
		{-one, -1},
		{-one - 1, -1},
		{2*one - 1, 1},
		{-2*one + 1, -1},
		{most, 1 << 24},
		{-most, -1 << 24},
		{most + 1, 1 << 24},
		{-most - 1, -1 << 24},
		{greatest, 1<<47 - 1},
		{least, -1 << 47},
	} {
		if got := Whole(c.a); got != c.want {
			t.Errorf("Whole(%d) = %d, not %d", c.a, got, c.want)
		}
	}
}

// P2.2: ordinary products, towards 0, the last ones that may be, and the first ones that may not.
func TestMul(t *testing.T) {
	for _, c := range []struct {
		a, b, want int64
		errno      api.Errno
	}{
		// The chapter's example.
		{98304, 131072, 196608, api.OK},
		{-98304, 131072, -196608, api.OK},
		{98304, -131072, -196608, api.OK},
		{-98304, -131072, 196608, api.OK},
		{0, most, 0, api.OK},
		{1, 1, 0, api.OK},
		{-1, 1, 0, api.OK},
		{3, one / 2, 1, api.OK},
		{-3, one / 2, -1, api.OK},
		{most, one, most, api.OK},
		{-most, one, -most, api.OK},
		{most, -one, -most, api.OK},
		{-most, -one, most, api.OK},
		{most, one + 1, 0, api.ErrRange},
		{-most, one + 1, 0, api.ErrRange},
		{most, 2 * one, 0, api.ErrRange},
		// Between them is the last product that is an int64, or the first one that is none.
		{-most, 1 << 23, 0, api.ErrRange},
		{most, 1 << 23, 0, api.ErrRange},
		{most, most, 0, api.ErrRange},
		{most, -most, 0, api.ErrRange},
		// What may not be is told ahead of what runs over.
		{most + 1, 0, 0, api.ErrArg},
		{0, most + 1, 0, api.ErrArg},
		{-most - 1, 0, 0, api.ErrArg},
		{0, -most - 1, 0, api.ErrArg},
		{most + 1, most, 0, api.ErrArg},
		{most, most + 1, 0, api.ErrArg},
		{greatest, greatest, 0, api.ErrArg},
		{least, least, 0, api.ErrArg},
	} {
		if got, errno := Mul(c.a, c.b); got != c.want || errno != c.errno {
			t.Errorf("Mul(%d, %d) = %d, %d, not %d, %d", c.a, c.b, got, errno, c.want, c.errno)
		}
	}
}

// P2.2: ordinary quotients, towards 0, a b of 0, the last ones that may be, and the first ones that may not.
func TestDiv(t *testing.T) {
	for _, c := range []struct {
		a, b, want int64
		errno      api.Errno
	}{
		// The chapter's examples.
		{65536, 131072, 32768, api.OK},
		{1, 0, 0, api.ErrArg},
		{-65536, 131072, -32768, api.OK},
		{65536, -131072, -32768, api.OK},
		{-65536, -131072, 32768, api.OK},
		{-7, 2, -229376, api.OK},
		{1, 3, 21845, api.OK},
		{-1, 3, -21845, api.OK},
		{1, 2 * one, 0, api.OK},
		{-1, 2 * one, 0, api.OK},
		{0, 5, 0, api.OK},
		{most, one, most, api.OK},
		{most, -one, -most, api.OK},
		{most, one - 1, 0, api.ErrRange},
		{-most, one - 1, 0, api.ErrRange},
		{1 << 24, 1, most, api.OK},
		{1<<24 + 1, 1, 0, api.ErrRange},
		{1<<24 + 1, -1, 0, api.ErrRange},
		{most, 1, 0, api.ErrRange},
		{-most, -1, 0, api.ErrRange},
		{most, most, one, api.OK},
		{-most, most, -one, api.OK},
		{0, 0, 0, api.ErrArg},
		{most, 0, 0, api.ErrArg},
		{-most, 0, 0, api.ErrArg},
		{most + 1, one, 0, api.ErrArg},
		{-most - 1, one, 0, api.ErrArg},
		{0, most + 1, 0, api.ErrArg},
		{0, -most - 1, 0, api.ErrArg},
		{greatest, 0, 0, api.ErrArg},
		{greatest, 1, 0, api.ErrArg},
		{least, -1, 0, api.ErrArg},
	} {
		if got, errno := Div(c.a, c.b); got != c.want || errno != c.errno {
			t.Errorf("Div(%d, %d) = %d, %d, not %d, %d", c.a, c.b, got, errno, c.want, c.errno)
		}
	}
}

// P2.2: as numbers without ends tell it; beside an error stands 0.
func TestMulAndDivAgainstBig(t *testing.T) {
	for _, a := range edges() {
		for _, b := range edges() {
			want, wantErrno := int64(0), api.ErrArg
			if bigMay(a) && bigMay(b) {
				want, wantErrno = bigScaled(a, b, one)
			}
			if got, errno := Mul(a, b); got != want || errno != wantErrno {
				t.Errorf("Mul(%d, %d) = %d, %d, not %d, %d", a, b, got, errno, want, wantErrno)
			}
			want, wantErrno = 0, api.ErrArg
			if bigMay(a) && bigMay(b) && b != 0 {
				want, wantErrno = bigScaled(a, one, b)
			}
			if got, errno := Div(a, b); got != want || errno != wantErrno {
				t.Errorf("Div(%d, %d) = %d, %d, not %d, %d", a, b, got, errno, want, wantErrno)
			}
		}
	}
}

// P2.2: ordinary shares, towards 0, each argument at its ends and beyond them, and what runs over in between.
func TestPart(t *testing.T) {
	for _, c := range []struct {
		a, n, of, want int64
		errno          api.Errno
	}{
		// The chapter's example.
		{100, 1, 3, 33, api.OK},
		{-100, 1, 3, -33, api.OK},
		{100, 2, 3, 66, api.OK},
		{-100, 2, 3, -66, api.OK},
		{100, 0, 3, 0, api.OK},
		{0, 3, 1, 0, api.OK},
		{100, 5, 1, 500, api.OK},
		{2, 1, 3, 0, api.OK},
		{-2, 1, 3, 0, api.OK},
		{most, 1, 1, most, api.OK},
		{-most, 1, 1, -most, api.OK},
		{1, most, 1, most, api.OK},
		{-1, most, 1, -most, api.OK},
		{1, most, most, 1, api.OK},
		{most, 1, most, 1, api.OK},
		{most, 2, 1, 0, api.ErrRange},
		{-most, 2, 1, 0, api.ErrRange},
		{most/2 + 1, 2, 1, 0, api.ErrRange},
		{-most/2 - 1, 2, 1, 0, api.ErrRange},
		// What comes may be: what is between is the last int64, or the first number beyond it.
		{-most, 1 << 23, most, -1 << 23, api.OK},
		{most, 1<<23 - 1, most, 1<<23 - 1, api.OK},
		{most, 1 << 23, most, 0, api.ErrRange},
		{-most, 1<<23 + 1, most, 0, api.ErrRange},
		{most, most, most, 0, api.ErrRange},
		{-most, most, most, 0, api.ErrRange},
		{1, 1, 0, 0, api.ErrArg},
		{0, 0, 0, 0, api.ErrArg},
		{1, -1, 1, 0, api.ErrArg},
		{1, 1, -1, 0, api.ErrArg},
		{1, most + 1, 1, 0, api.ErrArg},
		{1, 1, most + 1, 0, api.ErrArg},
		{most + 1, 1, 1, 0, api.ErrArg},
		{-most - 1, 1, 1, 0, api.ErrArg},
		{0, -1, 1, 0, api.ErrArg},
		{0, 0, -1, 0, api.ErrArg},
		{greatest, 0, 1, 0, api.ErrArg},
		{least, 1, 1, 0, api.ErrArg},
		{1, greatest, 1, 0, api.ErrArg},
		{1, 1, least, 0, api.ErrArg},
		// An of of 0 is told ahead of what runs over.
		{most, most, 0, 0, api.ErrArg},
	} {
		if got, errno := Part(c.a, c.n, c.of); got != c.want || errno != c.errno {
			t.Errorf("Part(%d, %d, %d) = %d, %d, not %d, %d", c.a, c.n, c.of, got, errno, c.want, c.errno)
		}
	}
}

// P2.2: as numbers without ends tell it; beside an error stands 0.
func TestPartAgainstBig(t *testing.T) {
	for _, a := range edges() {
		for _, n := range edges() {
			for _, of := range edges() {
				want, wantErrno := int64(0), api.ErrArg
				if bigMay(a) && bigMay(n) && bigMay(of) && n >= 0 && of > 0 {
					want, wantErrno = bigScaled(a, n, of)
				}
				if got, errno := Part(a, n, of); got != want || errno != wantErrno {
					t.Fatalf("Part(%d, %d, %d) = %d, %d, not %d, %d", a, n, of, got, errno, want, wantErrno)
				}
			}
		}
	}
}

// P2.3: each number that Of takes comes back.
func TestWholeOfOf(t *testing.T) {
	taken := 0
	for _, n := range edges() {
		a, errno := Of(n)
		if errno != api.OK {
			continue
		}
		taken++
		if got := Whole(a); got != n {
			t.Errorf("Whole(Of(%d)) = %d", n, got)
		}
	}
	if taken == 0 {
		t.Error("Of took none of the edges")
	}
}

// P2.3: each number that may be is the same by One.
func TestOneChangesNothing(t *testing.T) {
	for _, a := range edges() {
		if !bigMay(a) {
			continue
		}
		if got, errno := Mul(a, one); got != a || errno != api.OK {
			t.Errorf("Mul(%d, One) = %d, %d", a, got, errno)
		}
		if got, errno := Mul(one, a); got != a || errno != api.OK {
			t.Errorf("Mul(One, %d) = %d, %d", a, got, errno)
		}
		if got, errno := Div(a, one); got != a || errno != api.OK {
			t.Errorf("Div(%d, One) = %d, %d", a, got, errno)
		}
	}
}
