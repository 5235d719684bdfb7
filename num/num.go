// Package num is layer 1, numbers that stop at their ends: see shared/doc/01-num.md.
package num

import (
	"math"

	"flarepath/api"
)

// Add tells the sum, or the end of the numbers that it would pass.
func Add(a, b int64) int64 {
	switch {
	case b > 0 && a > math.MaxInt64-b:
		return math.MaxInt64
	case b < 0 && a < math.MinInt64-b:
		return math.MinInt64
	}
	return a + b
}

// Sub tells the difference, or the end of the numbers that it would pass.
// It is no Add of -b: the least number has no negative.
func Sub(a, b int64) int64 {
	switch {
	case b < 0 && a > math.MaxInt64+b:
		return math.MaxInt64
	case b > 0 && a < math.MinInt64+b:
		return math.MinInt64
	}
	return a - b
}

// Mul tells the product, if it is a number.
func Mul(a, b int64) (int64, api.Errno) {
	if productRunsOver(a, b) {
		return 0, api.ErrRange
	}
	return a * b, api.OK
}

// productRunsOver divides an end by one factor and holds the other against it.
// The least number is divided by factors above 0 alone: by -1 it would run over itself.
func productRunsOver(a, b int64) bool {
	switch {
	case a > 0 && b > 0:
		return a > math.MaxInt64/b
	case a < 0 && b < 0:
		return a < math.MaxInt64/b
	case a > 0 && b < 0:
		return b < math.MinInt64/a
	case a < 0 && b > 0:
		return a < math.MinInt64/b
	}
	return false
}

// Div tells the quotient, towards 0, if there is one and it is a number.
func Div(a, b int64) (int64, api.Errno) {
	switch {
	case b == 0:
		return 0, api.ErrArg
	case a == math.MinInt64 && b == -1:
		return 0, api.ErrRange
	}
	return a / b, api.OK
}

// Clamp tells n, no further than most from 0; of a most below 0 it is 0.
func Clamp(n, most int64) int64 {
	if most < 0 {
		return 0
	}
	return Within(n, -most, most)
}

// Within tells n, brought to low or high where it is beyond them; of a low above high it is low.
func Within(n, low, high int64) int64 {
	switch {
	case n < low || low > high:
		return low
	case n > high:
		return high
	}
	return n
}

// Near tells from, moved towards to by at most step, and no further than to; of a step below 0 it is from.
func Near(from, to, step int64) int64 {
	switch {
	case step < 0:
		return from
	case from < to:
		return min(Add(from, step), to)
	case from > to:
		return max(Sub(from, step), to)
	}
	return from
}
