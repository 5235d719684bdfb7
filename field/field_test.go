package field

import (
	"math"
	"slices"
	"strconv"
	"strings"
	"testing"

	"flarepath/api"
)

// tooGreat are data that do not fit 19 bits: the edges, each higher bit alone, such with digits that may not be, and what
// would be well if the higher bits were cut off.
func tooGreat() []uint32 {
	l := []uint32{1<<19 + 1, 1<<19 | 10, 1<<19 | 0x12345, 0x80000, 0x99999, 0xa0000, 0xfffff, 0x100000, math.MaxInt32, math.MaxUint32 - 1, math.MaxUint32}
	for i := 19; i < 32; i++ {
		l = append(l, 1<<i)
	}
	return l
}

// list makes marks from a text of 0s and 1s, the lowest bit first.
func list(s string) []bool {
	l := make([]bool, len(s))
	for i := range l {
		l[i] = s[i] == '1'
	}
	return l
}

// bitsOf tells data in 19 digits of 0 and 1, the highest first.
func bitsOf(data uint32) string {
	s := strconv.FormatUint(uint64(data), 2)
	return strings.Repeat("0", 19-len(s)) + s
}

func checkPutNumber(t *testing.T, n int64, want uint32, wantErrno api.Errno) {
	t.Helper()
	if got, errno := PutNumber(n); got != want || errno != wantErrno {
		t.Errorf("PutNumber(%d) = %d, %d, not %d, %d", n, got, errno, want, wantErrno)
	}
}

func checkNumber(t *testing.T, data uint32, want int64, wantErrno api.Errno) {
	t.Helper()
	if got, errno := Number(data); got != want || errno != wantErrno {
		t.Errorf("Number(%d) = %d, %d, not %d, %d", data, got, errno, want, wantErrno)
	}
}

func checkPutDigits(t *testing.T, n int64, want uint32, wantErrno api.Errno) {
	t.Helper()
	if got, errno := PutDigits(n); got != want || errno != wantErrno {
		t.Errorf("PutDigits(%d) = %x, %d, not %x, %d", n, got, errno, want, wantErrno)
	}
}

func checkDigits(t *testing.T, data uint32, want int64, wantErrno api.Errno) {
	t.Helper()
	if got, errno := Digits(data); got != want || errno != wantErrno {
		t.Errorf("Digits(%x) = %d, %d, not %d, %d", data, got, errno, want, wantErrno)
	}
}

func checkPutMarks(t *testing.T, l []bool, want uint32, wantErrno api.Errno) {
	t.Helper()
	if got, errno := PutMarks(l); got != want || errno != wantErrno {
		t.Errorf("PutMarks(%v) = %x, %d, not %x, %d", l, got, errno, want, wantErrno)
	}
}

func checkMarks(t *testing.T, data uint32, want []bool, wantErrno api.Errno) {
	t.Helper()
	if got, errno := Marks(data); !slices.Equal(got, want) || errno != wantErrno {
		t.Errorf("Marks(%x) = %v, %d, not %v, %d", data, got, errno, want, wantErrno)
	}
}

// P6.1, P6.2, P6.3: the chapter's examples.
func TestExamples(t *testing.T) {
	checkPutNumber(t, -1, 524287, api.OK)
	checkNumber(t, 524287, -1, api.OK)
	checkNumber(t, 262144, -262144, api.OK)
	checkPutDigits(t, 79999, 498073, api.OK)
	checkDigits(t, 10, 0, api.ErrForm)
	checkDigits(t, 21, 15, api.OK)
	checkPutNumber(t, 262144, 0, api.ErrRange)
	checkPutMarks(t, []bool{true, false, true}, 5, api.OK)
}

// P6.1: the edges of numbers, both ways.
func TestNumbers(t *testing.T) {
	for _, c := range []struct {
		n    int64
		data uint32
	}{
		{-1 << 18, 1 << 18},
		{-1<<18 + 1, 1<<18 + 1},
		{-2, 1<<19 - 2},
		{-1, 1<<19 - 1},
		{0, 0},
		{1, 1},
		{1 << 17, 1 << 17},
		{-1 << 17, 3 << 17},
		{1<<18 - 2, 1<<18 - 2},
		{1<<18 - 1, 1<<18 - 1},
	} {
		checkPutNumber(t, c.n, c.data, api.OK)
		checkNumber(t, c.data, c.n, api.OK)
	}
}

// P6.1: numbers and data that do not fit.
func TestNumbersRefused(t *testing.T) {
	for _, n := range []int64{
		-1<<18 - 1, -1<<18 - 2, 1 << 18, 1<<18 + 1, -1 << 19, 1<<19 - 1, 1 << 19, math.MinInt32, math.MaxInt32, math.MaxUint32,
		1 << 32, 1<<32 + 5, -1<<32 + 5, 1 << 62, math.MinInt64, math.MinInt64 + 1, math.MaxInt64 - 1, math.MaxInt64,
	} {
		checkPutNumber(t, n, 0, api.ErrRange)
	}
	for _, data := range tooGreat() {
		checkNumber(t, data, 0, api.ErrRange)
	}
}

// P6.1: the worth of each bit alone: the highest is less 2^18, the others are as they are.
func TestNumberBits(t *testing.T) {
	for i := range 18 {
		checkNumber(t, 1<<i, 1<<i, api.OK)
		checkNumber(t, 1<<18|1<<i, 1<<i-1<<18, api.OK)
	}
	checkNumber(t, 1<<18, -1<<18, api.OK)
}

// P6.1, P6.4: all data stand for numbers, one above the other from the least on, and are put as they were.
func TestAllNumbers(t *testing.T) {
	for n := int64(-1 << 18); n < 1<<18; n++ {
		data, errno := PutNumber(n)
		if errno != api.OK || data >= 1<<19 {
			t.Fatalf("PutNumber(%d) = %d, %d", n, data, errno)
		}
		checkNumber(t, data, n, api.OK)
	}
	for data := range uint32(1 << 19) {
		n, errno := Number(data)
		if errno != api.OK {
			t.Fatalf("Number(%d) = %d", data, errno)
		}
		checkPutNumber(t, n, data, api.OK)
	}
}

// P6.2: the edges of digits, both ways.
func TestDigits(t *testing.T) {
	for _, c := range []struct {
		n    int64
		data uint32
	}{
		{0, 0}, {1, 1}, {9, 9}, {10, 0x10}, {15, 0x15}, {99, 0x99}, {100, 0x100}, {999, 0x999}, {1000, 0x1000}, {9999, 0x9999},
		{10000, 0x10000}, {10203, 0x10203}, {54321, 0x54321}, {70000, 0x70000}, {79998, 0x79998}, {79999, 0x79999},
	} {
		checkPutDigits(t, c.n, c.data, api.OK)
		checkDigits(t, c.data, c.n, api.OK)
	}
}

// P6.2: numbers that have no five digits, the highest of three bits.
func TestPutDigitsRefuses(t *testing.T) {
	for _, n := range []int64{
		-1, -2, -9, -10, -79999, -80000, 80000, 80001, 89999, 90000, 99999, 100000, 1<<19 - 1, 1 << 19, 1 << 32, 1<<32 + 7, math.MinInt32,
		math.MinInt64, math.MinInt64 + 1, math.MaxInt64 - 1, math.MaxInt64,
	} {
		checkPutDigits(t, n, 0, api.ErrRange)
	}
}

// P6.2: each digit at each of its values, the others at the least, in between and at the greatest; several of them wrong too.
func TestEachDigit(t *testing.T) {
	for _, rest := range []uint32{0, 0x12345, 0x79999, 0xaaaa, 0x7ffff} {
		for place := range 5 {
			for digit := range uint32(16) {
				if place == 4 && digit > 7 {
					continue
				}
				data := rest&^(15<<(4*place)) | digit<<(4*place)
				n, err := strconv.ParseInt(strconv.FormatUint(uint64(data), 16), 10, 64)
				if err != nil {
					checkDigits(t, data, 0, api.ErrForm)
				} else {
					checkDigits(t, data, n, api.OK)
				}
			}
		}
	}
}

// P6.2: data that do not fit; that their digits may not be either is not what is told.
func TestDigitsRefuses(t *testing.T) {
	for _, data := range tooGreat() {
		checkDigits(t, data, 0, api.ErrRange)
	}
	for _, data := range []uint32{10, 15, 0xa0, 0xa00, 0xa000, 0xf000, 0x7000a, 0x7a999, 0x1a2b3, 1<<18 - 1, 1<<19 - 1} {
		checkDigits(t, data, 0, api.ErrForm)
	}
	checkDigits(t, 1<<18, 40000, api.OK)
}

// P6.2, P6.4: all numbers, and all data, as they are written in the tens and in the sixteens.
func TestAllDigits(t *testing.T) {
	for n := range int64(80000) {
		want, err := strconv.ParseUint(strconv.FormatInt(n, 10), 16, 32)
		if err != nil {
			t.Fatal(err)
		}
		checkPutDigits(t, n, uint32(want), api.OK)
		checkDigits(t, uint32(want), n, api.OK)
	}
	told := 0
	for data := range uint32(1 << 19) {
		n, errno := Digits(data)
		if strings.ContainsAny(strconv.FormatUint(uint64(data), 16), "abcdef") {
			checkDigits(t, data, 0, api.ErrForm)
			continue
		}
		if errno != api.OK {
			t.Errorf("Digits(%x) = %d", data, errno)
			continue
		}
		checkPutDigits(t, n, data, api.OK)
		told++
	}
	if told != 80000 {
		t.Errorf("%d data are told as digits", told)
	}
}

// P6.3: no marks, one, some, 18 and 19 of them.
func TestPutMarks(t *testing.T) {
	checkPutMarks(t, nil, 0, api.OK)
	checkPutMarks(t, []bool{}, 0, api.OK)
	for _, c := range []struct {
		marks string
		data  uint32
	}{
		{"0", 0},
		{"1", 1},
		{"01", 2},
		{"10", 1},
		{"1101", 11},
		{strings.Repeat("0", 18), 0},
		{strings.Repeat("1", 18), 1<<18 - 1},
		{strings.Repeat("0", 17) + "1", 1 << 17},
		{strings.Repeat("0", 19), 0},
		{strings.Repeat("1", 19), 1<<19 - 1},
		{strings.Repeat("0", 18) + "1", 1 << 18},
		{"1" + strings.Repeat("0", 18), 1},
	} {
		checkPutMarks(t, list(c.marks), c.data, api.OK)
	}
}

// P6.3: more than 19 marks, whatever they are; data that do not fit.
func TestMarksRefused(t *testing.T) {
	for _, count := range []int{20, 21, 32, 33, 64, 65, 1000} {
		checkPutMarks(t, list(strings.Repeat("0", count)), 0, api.ErrRange)
		checkPutMarks(t, list(strings.Repeat("1", count)), 0, api.ErrRange)
		checkPutMarks(t, list("101"+strings.Repeat("0", count-3)), 0, api.ErrRange)
	}
	for _, data := range tooGreat() {
		checkMarks(t, data, nil, api.ErrRange)
	}
}

// P6.3: 19 marks are told, the lowest bit first.
func TestMarks(t *testing.T) {
	checkMarks(t, 0, make([]bool, 19), api.OK)
	checkMarks(t, 5, list("101"+strings.Repeat("0", 16)), api.OK)
	checkMarks(t, 1<<18, list(strings.Repeat("0", 18)+"1"), api.OK)
	checkMarks(t, 1<<18-1, list(strings.Repeat("1", 18)+"0"), api.OK)
	checkMarks(t, 1<<19-1, list(strings.Repeat("1", 19)), api.OK)
}

// P6.3, P6.4: all data tell their bits, and are put as they were.
func TestAllMarks(t *testing.T) {
	for data := range uint32(1 << 19) {
		want := list(bitsOf(data))
		slices.Reverse(want)
		checkMarks(t, data, want, api.OK)
		checkPutMarks(t, want, data, api.OK)
	}
}

// P6.4: behind fewer marks than 19 there are 0s.
func TestFewerMarks(t *testing.T) {
	for count := range 20 {
		for _, marks := range []string{"1111111111111111111", "0101010101010101010", "1000000000000000001"} {
			l := list(marks[:count])
			data, errno := PutMarks(l)
			if errno != api.OK {
				t.Fatalf("PutMarks(%v) = %d", l, errno)
			}
			checkMarks(t, data, append(l, make([]bool, 19-count)...), api.OK)
		}
	}
}

// P6.3: the marks handed in stay as they are, the room behind them too, which is not read either.
func TestMarksStay(t *testing.T) {
	room := list("1011111111111111111111111")
	was := slices.Clone(room)
	checkPutMarks(t, room[:3], 5, api.OK)
	checkPutMarks(t, room[:20], 0, api.ErrRange)
	if !slices.Equal(room, was) {
		t.Errorf("the marks became %v", room)
	}
}

// P6.3: marks that are told are new memory each time.
func TestMarksAreNew(t *testing.T) {
	first, _ := Marks(5)
	second, _ := Marks(5)
	for i := range first {
		first[i] = !first[i]
	}
	want := list("1010000000000000000")
	if !slices.Equal(second, want) {
		t.Errorf("the other answer became %v", second)
	}
	checkMarks(t, 5, want, api.OK)
}
