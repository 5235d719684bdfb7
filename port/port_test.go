package port

import (
	"math"
	"math/bits"
	"testing"

	"flarepath/api"
	"flarepath/field"
	"flarepath/word"
)

type row struct {
	signal    int
	label     uint8
	low, high int64
}

// rows are the signals as chapter 7 has them.
func rows() []row {
	return []row{
		{api.Loc, 123, -100000, 100000},
		{api.Glide, 124, -100000, 100000},
		{api.Height, 116, -1000, 200000},
		{api.Drift, 209, -90000, 90000},
	}
}

// values are some that may be said: the ends, those next to them, those around 0, and some between.
func (r row) values() []int64 {
	l := []int64{r.low, r.low + 1, -2, -1, 0, 1, 2, 255, 256, 500, r.high - 1, r.high}
	for v := r.low; v <= r.high; v += 7919 {
		l = append(l, v)
	}
	return l
}

// beyond are some that may not be said: one beyond each end, the ends of 19 bits, those of int64, and such whose lowest bits
// alone would be well.
func (r row) beyond() []int64 {
	return []int64{
		r.low - 1, r.high + 1, -api.MaxData, api.MaxData - 1, -api.MaxData - 1, api.MaxData, 2 * api.MaxData, 2*api.MaxData + 1,
		-2 * api.MaxData, 1 << 31, 1 << 32, 1<<32 + 1, -1 << 32, math.MinInt64, math.MinInt64 + 1, math.MaxInt64 - 1, math.MaxInt64,
	}
}

// noSignals and noSources are numbers of none: next to those that are, at the ends, and such whose lowest bits alone would be one.
func noSignals() []int {
	return []int{-1, 4, -2, -4, 5, 116, 123, 255, 256, 258, 1 << 16, 1 << 32, -1 << 32, math.MinInt32, math.MaxInt32, math.MinInt, math.MaxInt}
}

func noSources() []int {
	return []int{-1, 3, -2, -3, 4, 255, 256, 257, 1 << 16, 1 << 32, -1 << 32, math.MinInt32, math.MaxInt32, math.MinInt, math.MaxInt - 1, math.MaxInt}
}

// numbers are numbers of 32 bits: silence, the ends, all with one bit or but one, and many from all over.
func numbers() []uint32 {
	l := []uint32{0, 1, math.MaxUint32, 0x55555555, 0xaaaaaaaa}
	for i := range 32 {
		l = append(l, 1<<i, ^uint32(1<<i))
	}
	x := uint32(1)
	for range 5000 {
		x = x*1664525 + 1013904223
		l = append(l, x, x>>16|x<<16)
	}
	return l
}

func wordOf(t *testing.T, label, source uint8, value int64, status uint8) uint32 {
	t.Helper()
	data, errno := field.PutNumber(value)
	if errno != api.OK {
		t.Fatalf("PutNumber(%d) = %d", value, errno)
	}
	x, errno := word.Put(api.Word{Label: label, Source: source, Data: data, Status: status})
	if errno != api.OK {
		t.Fatalf("word.Put: %d", errno)
	}
	return x
}

// put tells a word that must be there.
func put(t *testing.T, signal, source int, value int64) uint32 {
	t.Helper()
	x, errno := Put(signal, source, value)
	if errno != api.OK {
		t.Fatalf("Put(%d, %d, %d) = %d", signal, source, value, errno)
	}
	return x
}

func checkSaid(t *testing.T, signal, source int, x uint32, want int64) {
	t.Helper()
	if got, errno := Read(signal, source, x); got != (api.Reading{Is: true, Value: want}) || errno != api.OK {
		t.Errorf("Read(%d, %d, %08x) = %v, %d, not %d", signal, source, x, got, errno, want)
	}
}

func checkError(t *testing.T, signal, source int, x uint32, want api.Errno) {
	t.Helper()
	if got, errno := Read(signal, source, x); got != (api.Reading{}) || errno != want {
		t.Errorf("Read(%d, %d, %08x) = %v, %d, not error %d", signal, source, x, got, errno, want)
	}
}

func checkPut(t *testing.T, signal, source int, value int64, want uint32, wantErrno api.Errno) {
	t.Helper()
	if got, errno := Put(signal, source, value); got != want || errno != wantErrno {
		t.Errorf("Put(%d, %d, %d) = %08x, %d, not %08x, %d", signal, source, value, got, errno, want, wantErrno)
	}
}

// P8.1, P8.2, P8.3: the chapter's examples.
func TestExamples(t *testing.T) {
	x := put(t, api.Height, 1, 500)
	checkSaid(t, api.Height, 1, x, 500)
	checkError(t, api.Height, 1, 0, api.ErrShort)
	checkError(t, api.Height, 2, x, api.ErrSource)
	checkError(t, api.Loc, 1, x, api.ErrLabel)
	checkError(t, api.Height, 1, Broken(x), api.ErrParity)
	checkError(t, api.Height, 1, Failed(x), api.ErrStatus)
	checkPut(t, api.Height, 3, 0, 0, api.ErrArg)
	checkPut(t, api.Height, 0, -1001, 0, api.ErrRange)
}

// P8.1: words written out bit by bit: the label's bits the other way round, the source and 1, the data, the status, the parity.
func TestWordsWrittenOut(t *testing.T) {
	for _, c := range []struct {
		signal, source int
		value          int64
		x              uint32
	}{
		{api.Height, 1, 500, 0b0_11_0000000000111110100_10_00101110},
		{api.Height, 0, 0, 0b0_11_0000000000000000000_01_00101110},
		{api.Height, 2, -1, 0b0_11_1111111111111111111_11_00101110},
		{api.Height, 0, -1000, 0b1_11_1111111110000011000_01_00101110},
		{api.Loc, 0, 0, 0b0_11_0000000000000000000_01_11011110},
		{api.Loc, 2, 1, 0b0_11_0000000000000000001_11_11011110},
		{api.Glide, 1, 0, 0b1_11_0000000000000000000_10_00111110},
		{api.Glide, 2, -2, 0b0_11_1111111111111111110_11_00111110},
		{api.Drift, 0, 0, 0b0_11_0000000000000000000_01_10001011},
		{api.Drift, 2, 3, 0b1_11_0000000000000000011_11_10001011},
	} {
		checkPut(t, c.signal, c.source, c.value, c.x, api.OK)
		checkSaid(t, c.signal, c.source, c.x, c.value)
	}
}

// P8.1: values at Low and High, and between them, of every signal and source, both ways.
func TestValues(t *testing.T) {
	for _, r := range rows() {
		for source := range api.Sources {
			for _, v := range r.values() {
				x := wordOf(t, r.label, uint8(source+1), v, api.StatusFine)
				checkPut(t, r.signal, source, v, x, api.OK)
				checkSaid(t, r.signal, source, x, v)
			}
		}
	}
}

// P8.1: values one beyond Low and High, and further beyond, of every signal and source, both ways.
func TestValuesBeyond(t *testing.T) {
	for _, r := range rows() {
		for source := range api.Sources {
			for _, v := range r.beyond() {
				checkPut(t, r.signal, source, v, 0, api.ErrRange)
				if v >= -api.MaxData && v < api.MaxData {
					x := wordOf(t, r.label, uint8(source+1), v, api.StatusFine)
					checkError(t, r.signal, source, x, api.ErrRange)
				}
			}
		}
	}
}

// P8.1: where there is no such signal or source, it is ErrArg, whatever the word or the value is.
func TestNoSuchSignalOrSource(t *testing.T) {
	words := append([]uint32{}, numbers()[:40]...)
	for _, r := range rows() {
		for source := range api.Sources {
			x := put(t, r.signal, source, 0)
			words = append(words, x, Broken(x), Failed(x))
		}
	}
	refuse := func(signal, source int) {
		t.Helper()
		for _, x := range words {
			checkError(t, signal, source, x, api.ErrArg)
		}
		for _, v := range []int64{0, 1, -1, 500, -1001, 200001, math.MinInt64, math.MaxInt64} {
			checkPut(t, signal, source, v, 0, api.ErrArg)
		}
	}
	for _, signal := range noSignals() {
		for _, source := range append([]int{0, 1, 2}, noSources()...) {
			refuse(signal, source)
		}
	}
	for signal := range api.Signals {
		for _, source := range noSources() {
			refuse(signal, source)
		}
	}
}

// P8.1: a word of 0 is silence, though its parity is even as well; no other word is.
func TestSilence(t *testing.T) {
	for signal := range api.Signals {
		for source := range api.Sources {
			checkError(t, signal, source, 0, api.ErrShort)
			for _, x := range numbers()[1:] {
				if _, errno := Read(signal, source, x); errno == api.ErrShort {
					t.Errorf("Read(%d, %d, %08x): silence", signal, source, x)
				}
			}
		}
	}
}

// P8.1: a word with each set of faults: the error is that of the fault that the promise names first.
func TestFaultsInOrder(t *testing.T) {
	errnos := []api.Errno{api.ErrParity, api.ErrLabel, api.ErrSource, api.ErrStatus, api.ErrRange}
	for _, r := range rows() {
		for source := range api.Sources {
			for set := range 1 << len(errnos) {
				label, place, status, value := r.label, uint8(source+1), uint8(api.StatusFine), r.high
				if set&2 != 0 {
					label ^= 1
				}
				if set&4 != 0 {
					place ^= 3
				}
				if set&8 != 0 {
					status = api.StatusTest
				}
				if set&16 != 0 {
					value = r.high + 1
				}
				x := wordOf(t, label, place, value, status)
				if set&1 != 0 {
					x ^= 1 << 31
				}
				if set == 0 {
					checkSaid(t, r.signal, source, x, r.high)
					continue
				}
				checkError(t, r.signal, source, x, errnos[bits.TrailingZeros(uint(set))])
			}
		}
	}
}

// P8.1: all labels, sources and statuses but the due ones, each by itself.
func TestOtherLabelsSourcesStatuses(t *testing.T) {
	for _, r := range rows() {
		for source := range api.Sources {
			due := uint8(source + 1)
			for n := range 256 {
				if label := uint8(n); label != r.label {
					checkError(t, r.signal, source, wordOf(t, label, due, 7, api.StatusFine), api.ErrLabel)
				}
			}
			for n := range 4 {
				if other := uint8(n); other != due {
					checkError(t, r.signal, source, wordOf(t, r.label, other, 7, api.StatusFine), api.ErrSource)
				}
			}
			for _, status := range []uint8{api.StatusFail, api.StatusNone, api.StatusTest} {
				checkError(t, r.signal, source, wordOf(t, r.label, due, 7, status), api.ErrStatus)
			}
		}
	}
}

// P8.1: a word is said at one signal and source alone; at each other source of its signal it is ErrSource, at each other
// signal ErrLabel.
func TestOtherPlaces(t *testing.T) {
	for signal := range api.Signals {
		for source := range api.Sources {
			x := put(t, signal, source, 500)
			for s := range api.Signals {
				for o := range api.Sources {
					switch {
					case s != signal:
						checkError(t, s, o, x, api.ErrLabel)
					case o != source:
						checkError(t, s, o, x, api.ErrSource)
					default:
						checkSaid(t, s, o, x, 500)
					}
				}
			}
		}
	}
}

// P8.2: said, silent, broken and otherwise wrong words side by side, each reading in its own place; what was handed in stays.
func TestAll(t *testing.T) {
	var words [api.Signals][api.Sources]uint32
	var want [api.Signals][api.Sources]api.Reading
	say := func(signal, source int, value int64) {
		words[signal][source] = put(t, signal, source, value)
		want[signal][source] = api.Reading{Is: true, Value: value}
	}
	say(api.Loc, 0, -100000)
	say(api.Loc, 2, 0)
	words[api.Loc][1] = Broken(put(t, api.Loc, 1, 5))
	say(api.Glide, 1, 77)
	words[api.Glide][2] = Failed(put(t, api.Glide, 2, 6))
	words[api.Height][0] = put(t, api.Height, 1, 8)
	say(api.Height, 1, 200000)
	say(api.Height, 2, -1000)
	say(api.Drift, 0, -3)
	words[api.Drift][1] = put(t, api.Loc, 1, 9)
	words[api.Drift][2] = wordOf(t, 209, 3, 90001, api.StatusFine)
	before := words
	if got := All(words); got != want {
		t.Errorf("All = %v, not %v", got, want)
	}
	if words != before {
		t.Errorf("the words became %v", words)
	}
	if got := All([api.Signals][api.Sources]uint32{}); got != ([api.Signals][api.Sources]api.Reading{}) {
		t.Errorf("All of silence = %v", got)
	}
}

// P8.2: twelve good words, no two with the same value; then each place alone silent, broken, failed, or alone said.
func TestAllPlaces(t *testing.T) {
	var words [api.Signals][api.Sources]uint32
	var want [api.Signals][api.Sources]api.Reading
	for signal := range api.Signals {
		for source := range api.Sources {
			value := int64(100*signal + source - 150)
			words[signal][source] = put(t, signal, source, value)
			want[signal][source] = api.Reading{Is: true, Value: value}
		}
	}
	if got := All(words); got != want {
		t.Errorf("All = %v, not %v", got, want)
	}
	for signal := range api.Signals {
		for source := range api.Sources {
			x := words[signal][source]
			for _, wrong := range []uint32{0, Broken(x), Failed(x), math.MaxUint32} {
				some, wantSome := words, want
				some[signal][source], wantSome[signal][source] = wrong, api.Reading{}
				if got := All(some); got != wantSome {
					t.Errorf("All with %08x at %d, %d = %v, not %v", wrong, signal, source, got, wantSome)
				}
			}
			var one [api.Signals][api.Sources]uint32
			var wantOne [api.Signals][api.Sources]api.Reading
			one[signal][source], wantOne[signal][source] = x, want[signal][source]
			if got := All(one); got != wantOne {
				t.Errorf("All with %d, %d alone = %v, not %v", signal, source, got, wantOne)
			}
		}
	}
}

// P8.2: Broken changes the highest bit alone, either way; twice over it is the same word again.
func TestBroken(t *testing.T) {
	for _, c := range [][2]uint32{{0, 0x80000000}, {0x80000000, 0}, {1, 0x80000001}, {0x7fffffff, 0xffffffff}, {0xffffffff, 0x7fffffff}, {0x6007d22e, 0xe007d22e}} {
		if got := Broken(c[0]); got != c[1] {
			t.Errorf("Broken(%08x) = %08x, not %08x", c[0], got, c[1])
		}
	}
	for _, x := range numbers() {
		y := Broken(x)
		if y&0x7fffffff != x&0x7fffffff || y>>31 == x>>31 {
			t.Errorf("Broken(%08x) = %08x", x, y)
		}
		if got := Broken(y); got != x {
			t.Errorf("Broken(Broken(%08x)) = %08x", x, got)
		}
	}
}

// P8.2: Failed of a word of odd parity changes the status, and the parity's bit where it must; of even parity, nothing; twice
// over it is the same as once.
func TestFailed(t *testing.T) {
	for _, c := range [][2]uint32{
		{0x6007d22e, 0x0007d22e}, {0xe0000000, 0x80000000}, {0x20000000, 0x80000000}, {0x40000001, 0x40000001}, {0xa0000001, 0x00000001},
		{0xc0000001, 0x00000001}, {0x80000000, 0x80000000}, {1, 1}, {0, 0}, {3, 3}, {0x60000000, 0x60000000}, {0xffffffff, 0xffffffff},
		{0x7fffffff, 0x1fffffff}, {0xbfffffff, 0x1fffffff}, {0xfffffffe, 0x9ffffffe},
	} {
		if got := Failed(c[0]); got != c[1] {
			t.Errorf("Failed(%08x) = %08x, not %08x", c[0], got, c[1])
		}
	}
	for _, x := range numbers() {
		y := Failed(x)
		if bits.OnesCount32(x)%2 == 0 {
			if y != x {
				t.Errorf("Failed(%08x) = %08x, but its parity is even", x, y)
			}
			continue
		}
		if y&0x1fffffff != x&0x1fffffff || y>>29&3 != api.StatusFail || bits.OnesCount32(y)%2 == 0 {
			t.Errorf("Failed(%08x) = %08x", x, y)
		}
		if got := Failed(y); got != y {
			t.Errorf("Failed(Failed(%08x)) = %08x, not %08x", x, got, y)
		}
	}
}

// P8.2: a broken word does not fail, for its parity is even; a failed word breaks.
func TestBrokenAndFailed(t *testing.T) {
	for _, x := range numbers() {
		if bits.OnesCount32(x)%2 == 0 {
			continue
		}
		broken := Broken(x)
		if got := Failed(broken); got != broken {
			t.Errorf("Failed(Broken(%08x)) = %08x, not %08x", x, got, broken)
		}
		if got := Broken(Failed(x)); got != Failed(x)^1<<31 {
			t.Errorf("Broken(Failed(%08x)) = %08x", x, got)
		}
	}
}

// P8.3: what is put is read; broken it is ErrParity, failed ErrStatus; broken twice it is read again, failed twice still failed.
func TestPutIsRead(t *testing.T) {
	for _, r := range rows() {
		for source := range api.Sources {
			for _, v := range r.values() {
				x := put(t, r.signal, source, v)
				checkSaid(t, r.signal, source, x, v)
				checkError(t, r.signal, source, Broken(x), api.ErrParity)
				checkError(t, r.signal, source, Failed(x), api.ErrStatus)
				checkSaid(t, r.signal, source, Broken(Broken(x)), v)
				checkError(t, r.signal, source, Failed(Failed(x)), api.ErrStatus)
				checkError(t, r.signal, source, Broken(Failed(x)), api.ErrParity)
				checkError(t, r.signal, source, Failed(Broken(x)), api.ErrParity)
			}
		}
	}
}

// P8.3: what is read is put as the same word.
func TestReadIsPut(t *testing.T) {
	for signal, r := range rows() {
		for data := uint32(0); data < 1<<19; data += 61 {
			x, errno := word.Put(api.Word{Label: r.label, Source: 2, Data: data, Status: api.StatusFine})
			if errno != api.OK {
				t.Fatalf("word.Put of data %d: %d", data, errno)
			}
			if reading, errno := Read(signal, 1, x); errno == api.OK {
				checkPut(t, signal, 1, reading.Value, x, api.OK)
			}
		}
	}
}

// P8.3: a word with any one of its bits changed has even parity; with two, whichever, it is never said with its value.
func TestBitsChanged(t *testing.T) {
	for _, r := range rows() {
		for source := range api.Sources {
			for _, v := range []int64{r.low, -1, 0, 1, r.high} {
				x := put(t, r.signal, source, v)
				for i := range 32 {
					checkError(t, r.signal, source, x^1<<i, api.ErrParity)
					for j := range i {
						if got, _ := Read(r.signal, source, x^1<<i^1<<j); got.Is && got.Value == v {
							t.Errorf("Read(%d, %d, %08x) = %v with bits %d and %d changed", r.signal, source, x, got, i, j)
						}
					}
				}
			}
		}
	}
}

// P8.1: a word with one field's bit changed, and the parity mended: the error is that field's.
func TestBitsChangedAndMended(t *testing.T) {
	for _, r := range rows() {
		x := put(t, r.signal, 1, 0)
		for i := range 31 {
			y := x ^ 1<<i ^ 1<<31
			switch {
			case i < 8:
				checkError(t, r.signal, 1, y, api.ErrLabel)
			case i < 10:
				checkError(t, r.signal, 1, y, api.ErrSource)
			case i >= 29:
				checkError(t, r.signal, 1, y, api.ErrStatus)
			case i == 28:
				checkError(t, r.signal, 1, y, api.ErrRange)
			default:
				if v := int64(1) << (i - 10); v <= r.high {
					checkSaid(t, r.signal, 1, y, v)
				} else {
					checkError(t, r.signal, 1, y, api.ErrRange)
				}
			}
		}
	}
}
