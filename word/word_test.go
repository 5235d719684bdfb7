package word

import (
	"math"
	"strconv"
	"strings"
	"testing"

	"flarepath/api"
)

// binary tells n in as many binary digits as asked, the highest first.
func binary(n uint64, digits int) string {
	s := strconv.FormatUint(n, 2)
	return strings.Repeat("0", digits-len(s)) + s
}

func backwards(s string) string {
	var b strings.Builder
	for i := len(s) - 1; i >= 0; i-- {
		b.WriteByte(s[i])
	}
	return b.String()
}

// digits tells the word of w digit by digit, the highest first, as the chapter lays it out.
func digits(w api.Word) string {
	s := binary(uint64(w.Status), 2) + binary(uint64(w.Data), 19) + binary(uint64(w.Source), 2) + backwards(binary(uint64(w.Label), 8))
	if strings.Count(s, "1")%2 == 0 {
		return "1" + s
	}
	return "0" + s
}

// read tells what the digits of a word say.
func read(s string) api.Word {
	number := func(s string) uint64 {
		n, err := strconv.ParseUint(s, 2, 32)
		if err != nil {
			panic(err)
		}
		return n
	}
	return api.Word{
		Label:  uint8(number(backwards(s[24:]))),
		Source: uint8(number(s[22:24])),
		Data:   uint32(number(s[3:22])),
		Status: uint8(number(s[1:3])),
	}
}

// data are the edges of what 19 bits hold, each bit of them alone, and some between.
func data() []uint32 {
	l := []uint32{0, 3, 7, 0x2aaaa, 0x55555, 1000, 123456, 1<<18 - 1, 1<<19 - 2, 1<<19 - 1}
	for i := range 19 {
		l = append(l, 1<<i)
	}
	return l
}

// words are such as may be put: every label with every source and status, with the data's edges.
func words() []api.Word {
	var all []api.Word
	for label := range 256 {
		for source := range 4 {
			for status := range 4 {
				for _, d := range data() {
					all = append(all, api.Word{Label: uint8(label), Source: uint8(source), Data: d, Status: uint8(status)})
				}
			}
		}
	}
	return all
}

// numbers are numbers of 32 bits: the ends, all with one or two ones, or but one or two, and many from all over.
func numbers() []uint32 {
	all := []uint32{0, math.MaxUint32, 0x55555555, 0xaaaaaaaa, 0x60000501, 0xe0000501}
	for i := range 32 {
		for j := range 32 {
			x := uint32(1)<<i | uint32(1)<<j
			all = append(all, x, ^x)
		}
	}
	x := uint32(1)
	for range 20000 {
		x = x*1664525 + 1013904223
		all = append(all, x, x>>16|x<<16)
	}
	return all
}

func checkPut(t *testing.T, w api.Word, want uint32, wantErrno api.Errno) {
	t.Helper()
	if got, errno := Put(w); got != want || errno != wantErrno {
		t.Errorf("Put(%v) = %08x, %d, not %08x, %d", w, got, errno, want, wantErrno)
	}
}

func checkGet(t *testing.T, x uint32, want api.Word, wantErrno api.Errno) {
	t.Helper()
	if got, errno := Get(x); got != want || errno != wantErrno {
		t.Errorf("Get(%08x) = %v, %d, not %v, %d", x, got, errno, want, wantErrno)
	}
}

// P5.1, P5.2: the chapter's examples.
func TestExamples(t *testing.T) {
	checkPut(t, api.Word{}, 0x80000000, api.OK)
	checkPut(t, api.Word{Label: 0x80, Source: 1, Data: 1, Status: 3}, 0x60000501, api.OK)
	checkGet(t, 0, api.Word{}, api.ErrParity)
	checkGet(t, 0x80000000, api.Word{}, api.OK)
	if Odd(3) {
		t.Error("Odd(3) is true")
	}
	if got := Turn(1); got != 0x80 {
		t.Errorf("Turn(1) = %02x", got)
	}
	checkPut(t, api.Word{Source: 4}, 0, api.ErrArg)
}

// P5.1: each field at its least and at its greatest, alone and with the others, both ways.
func TestFields(t *testing.T) {
	for _, c := range []struct {
		w api.Word
		x uint32
	}{
		{api.Word{Label: 1}, 0x00000080},
		{api.Word{Label: 0x80}, 0x00000001},
		{api.Word{Label: 0x12}, 0x80000048},
		{api.Word{Label: 0x3c}, 0x8000003c},
		{api.Word{Label: 0xff}, 0x800000ff},
		{api.Word{Label: 0xfe}, 0x0000007f},
		{api.Word{Source: 1}, 0x00000100},
		{api.Word{Source: 2}, 0x00000200},
		{api.Word{Source: 3}, 0x80000300},
		{api.Word{Data: 1}, 0x00000400},
		{api.Word{Data: 1 << 18}, 0x10000000},
		{api.Word{Data: 1<<19 - 1}, 0x1ffffc00},
		{api.Word{Data: 1<<19 - 2}, 0x9ffff800},
		{api.Word{Status: 1}, 0x20000000},
		{api.Word{Status: 2}, 0x40000000},
		{api.Word{Status: 3}, 0xe0000000},
		{api.Word{Label: 0xff, Source: 3, Data: 1<<19 - 1, Status: 3}, 0x7fffffff},
		{api.Word{Label: 0xff, Source: 3, Data: 1<<19 - 1, Status: 1}, 0xbfffffff},
		{api.Word{Label: 0x7f, Source: 3, Data: 1<<19 - 1, Status: 3}, 0xfffffffe},
	} {
		checkPut(t, c.w, c.x, api.OK)
		checkGet(t, c.x, c.w, api.OK)
	}
}

// P5.1: fields that have no room, one by one and several at once, whatever the others are.
func TestPutRefuses(t *testing.T) {
	twos := []uint8{0, 3, 4, 5, 7, 8, 127, 128, 252, 255}
	nineteens := []uint32{0, 1, 1<<19 - 1, 1 << 19, 1<<19 + 1, 1<<20 - 1, 1 << 20, 1 << 22, 1 << 31, math.MaxUint32}
	for _, label := range []uint8{0, 1, 0x80, 0xff} {
		for _, source := range twos {
			for _, status := range twos {
				for _, d := range nineteens {
					w := api.Word{Label: label, Source: source, Data: d, Status: status}
					_, errno := Put(w)
					may := source < 4 && status < 4 && d < 1<<19
					if may && errno != api.OK {
						t.Errorf("Put(%v) = %d", w, errno)
					}
					if !may {
						checkPut(t, w, 0, api.ErrArg)
					}
				}
			}
		}
	}
}

// P5.1: each word stands as it does digit by digit.
func TestPutAgainstDigits(t *testing.T) {
	for _, w := range words() {
		want, err := strconv.ParseUint(digits(w), 2, 32)
		if err != nil {
			t.Fatal(err)
		}
		checkPut(t, w, uint32(want), api.OK)
	}
}

// P5.1: each number says what it does digit by digit, or is refused.
func TestGetAgainstDigits(t *testing.T) {
	refused := 0
	for _, x := range numbers() {
		s := binary(uint64(x), 32)
		if strings.Count(s, "1")%2 == 0 {
			checkGet(t, x, api.Word{}, api.ErrParity)
			refused++
			continue
		}
		checkGet(t, x, read(s), api.OK)
	}
	if refused == 0 || refused == len(numbers()) {
		t.Errorf("%d of %d numbers have an even number of ones", refused, len(numbers()))
	}
}

// P5.2: no ones, one, two, and so on to all of them, from either end.
func TestOdd(t *testing.T) {
	for n := range 33 {
		low := uint32(1<<n - 1)
		for _, x := range []uint32{low, low << (32 - n)} {
			if got := Odd(x); got != (n%2 == 1) {
				t.Errorf("Odd(%08x) = %t", x, got)
			}
		}
	}
	for _, x := range numbers() {
		if got, want := Odd(x), strings.Count(binary(uint64(x), 32), "1")%2 == 1; got != want {
			t.Errorf("Odd(%08x) = %t", x, got)
		}
	}
}

// P5.2: all bytes; turned twice, each is what it was.
func TestTurn(t *testing.T) {
	for n := range 256 {
		b := uint8(n)
		want, err := strconv.ParseUint(backwards(binary(uint64(b), 8)), 2, 8)
		if err != nil {
			t.Fatal(err)
		}
		if got := Turn(b); got != uint8(want) {
			t.Errorf("Turn(%02x) = %02x, not %02x", b, got, want)
		}
		if got := Turn(Turn(b)); got != b {
			t.Errorf("Turn(Turn(%02x)) = %02x", b, got)
		}
	}
}

// P5.3: what is put is got.
func TestPutIsGot(t *testing.T) {
	for _, w := range words() {
		x, errno := Put(w)
		if errno != api.OK {
			t.Fatalf("Put(%v) = %d", w, errno)
		}
		checkGet(t, x, w, api.OK)
	}
}

// P5.3: what is got is put as the same word.
func TestGotIsPut(t *testing.T) {
	for _, x := range numbers() {
		if w, errno := Get(x); errno == api.OK {
			checkPut(t, w, x, api.OK)
		}
	}
}

// P5.3: a word with any one of its bits changed is refused; with that bit changed back it is not.
func TestOneBitChanged(t *testing.T) {
	for _, w := range words() {
		x, errno := Put(w)
		if errno != api.OK {
			t.Fatalf("Put(%v) = %d", w, errno)
		}
		for i := range 32 {
			checkGet(t, x^1<<i, api.Word{}, api.ErrParity)
		}
	}
	for _, x := range numbers() {
		_, errno := Get(x)
		for i := range 32 {
			if _, changed := Get(x ^ 1<<i); (changed == api.OK) == (errno == api.OK) {
				t.Errorf("Get(%08x) = %d, with bit %d changed %d", x, errno, i, changed)
			}
		}
	}
}
