package msg

import (
	"bytes"
	"encoding/binary"
	"math"
	"math/big"
	"math/rand"
	"testing"

	"flarepath/api"
)

const most = 1 << 40

// unlike is a message whose fields are all unlike one another, and so are its bytes but for the highest ones of each command.
var unlike = api.Message{
	Lane:   2,
	Frame:  0x87654321,
	Heard:  [api.Lanes]uint8{0x90, 0x9a, 0xa9},
	Mode:   6,
	Level:  0,
	Engage: true,
	Cmd:    api.Command{Side: 0xb0b1b2b3b4, Sink: -0x0102030407, Turn: 0x3c3d3e3f40},
}

// unlikeBytes are its bytes, but for the sum's.
var unlikeBytes = []byte{
	165,
	2,
	0x21, 0x43, 0x65, 0x87,
	0x90, 0x9a, 0xa9,
	6,
	0,
	1,
	0xb4, 0xb3, 0xb2, 0xb1, 0xb0, 0, 0, 0,
	0xf9, 0xfb, 0xfc, 0xfd, 0xfe, 0xff, 0xff, 0xff,
	0x40, 0x3f, 0x3e, 0x3d, 0x3c, 0, 0, 0,
}

// sumOf tells the chapter's sum by numbers that have no ends.
func sumOf(b []byte) uint32 {
	sum := new(big.Int)
	for i, c := range b {
		worth := new(big.Int).Mul(big.NewInt(int64(c)), big.NewInt(int64(i)+1))
		sum.Add(sum, worth)
	}
	return uint32(sum.Mod(sum, big.NewInt(1<<32)).Uint64())
}

// withSum lays the right sum behind the bytes.
func withSum(b []byte) []byte {
	return binary.LittleEndian.AppendUint32(bytes.Clone(b), sumOf(b))
}

// bytesOf tells a message's bytes by the chapter's list, whether it may be or not.
func bytesOf(m api.Message) []byte {
	b := []byte{165, m.Lane}
	b = binary.LittleEndian.AppendUint32(b, m.Frame)
	b = append(b, m.Heard[0], m.Heard[1], m.Heard[2], m.Mode, m.Level, 0)
	if m.Engage {
		b[11] = 1
	}
	b = binary.LittleEndian.AppendUint64(b, uint64(m.Cmd.Side))
	b = binary.LittleEndian.AppendUint64(b, uint64(m.Cmd.Sink))
	b = binary.LittleEndian.AppendUint64(b, uint64(m.Cmd.Turn))
	return withSum(b)
}

// changed tells bytes with one of them set, and the sum put right.
func changed(b []byte, at int, to byte) []byte {
	b = bytes.Clone(b[:36])
	b[at] = to
	return withSum(b)
}

// command tells a message one of whose commands is n.
func command(which int, n int64) api.Message {
	var m api.Message
	*[]*int64{&m.Cmd.Side, &m.Cmd.Sink, &m.Cmd.Turn}[which] = n
	return m
}

func engaged(m api.Message, is bool) api.Message {
	m.Engage = is
	return m
}

// commandEdges are the numbers that a command may be at its ends, and within.
func commandEdges() []int64 {
	return []int64{-most, -most + 1, -1 << 39, -1 << 32, -1 << 31, -65537, -256, -255, -1, 0, 1, 127, 128, 255, 256, 65535, 65536, 1 << 31, 1 << 32, 1 << 39, most - 1, most}
}

// commandsBeyond are numbers that no command may be: some are within if the higher bytes are lost.
func commandsBeyond() []int64 {
	return []int64{
		most + 1, most + 2, -most - 1, -most - 2, 1 << 41, -1 << 41, 1 << 48, 1 << 56, -1 << 56, 1<<56 + 1, 1 << 62, -1 << 62,
		math.MinInt64, math.MinInt64 + 1, math.MaxInt64 - 1, math.MaxInt64,
	}
}

// good are messages that may be: each field at its ends, alone and together with the others.
func good() []api.Message {
	l := []api.Message{
		{},
		unlike,
		{Lane: 1},
		{Lane: 2},
		{Frame: 1},
		{Frame: 1 << 8},
		{Frame: 1 << 16},
		{Frame: 1 << 24},
		{Frame: math.MaxUint32},
		{Heard: [api.Lanes]uint8{1, 2, 4}},
		{Heard: [api.Lanes]uint8{255, 255, 255}},
		{Level: api.Land2},
		{Level: api.Land3},
		{Engage: true},
		{
			Lane: 2, Frame: math.MaxUint32, Heard: [api.Lanes]uint8{255, 255, 255}, Mode: api.Around, Level: api.Land3, Engage: true,
			Cmd: api.Command{Side: most, Sink: most, Turn: most},
		},
		{
			Lane: 2, Frame: math.MaxUint32, Heard: [api.Lanes]uint8{255, 255, 255}, Mode: api.Around, Level: api.Land3, Engage: true,
			Cmd: api.Command{Side: -1, Sink: -1, Turn: -1},
		},
		{Cmd: api.Command{Side: -most, Sink: -most, Turn: -most}},
	}
	for mode := range uint8(api.Around + 1) {
		l = append(l, api.Message{Mode: mode})
	}
	for which := range 3 {
		for _, n := range commandEdges() {
			l = append(l, command(which, n))
		}
	}
	return l
}

// bad are messages that may not be.
func bad() []api.Message {
	l := []api.Message{
		{Lane: 3}, {Lane: 4}, {Lane: 128}, {Lane: 255},
		{Mode: 7}, {Mode: 8}, {Mode: 128}, {Mode: 255},
		{Level: 3}, {Level: 4}, {Level: 128}, {Level: 255},
		{Lane: 3, Mode: 7, Level: 3, Cmd: api.Command{Side: most + 1, Sink: most + 1, Turn: most + 1}},
		{Lane: 3, Frame: math.MaxUint32, Heard: [api.Lanes]uint8{255, 255, 255}, Engage: true},
	}
	for which := range 3 {
		for _, n := range commandsBeyond() {
			l = append(l, command(which, n))
		}
	}
	return l
}

// random tells messages that may be, the same ones in each run.
func random(many int) []api.Message {
	r := rand.New(rand.NewSource(12))
	n := func() int64 { return (r.Int63n(2*most+1) - most) >> r.Intn(41) }
	l := make([]api.Message, many)
	for i := range l {
		l[i] = api.Message{
			Lane:   uint8(r.Intn(3)),
			Frame:  r.Uint32(),
			Heard:  [api.Lanes]uint8{uint8(r.Intn(256)), uint8(r.Intn(256)), uint8(r.Intn(256))},
			Mode:   uint8(r.Intn(7)),
			Level:  uint8(r.Intn(3)),
			Engage: r.Intn(2) == 1,
			Cmd:    api.Command{Side: n(), Sink: n(), Turn: n()},
		}
	}
	return l
}

func mustPut(t *testing.T, m api.Message) []byte {
	t.Helper()
	b, errno := Put(m)
	if errno != api.OK || len(b) != 40 {
		t.Fatalf("Put(%v) = %x, %d", m, b, errno)
	}
	return b
}

func checkGet(t *testing.T, b []byte, want api.Message, wantErrno api.Errno) {
	t.Helper()
	if got, errno := Get(b); got != want || errno != wantErrno {
		t.Errorf("Get(%x) = %v, %d, not %v, %d", b, got, errno, want, wantErrno)
	}
}

func checkRefused(t *testing.T, b []byte, want api.Errno) {
	t.Helper()
	checkGet(t, b, api.Message{}, want)
}

func checkSum(t *testing.T, b []byte, want uint32) {
	t.Helper()
	if got := Sum(b); got != want {
		t.Errorf("Sum of %d bytes = %d, not %d", len(b), got, want)
	}
}

// P12.1: the chapter's examples.
func TestExamples(t *testing.T) {
	b := mustPut(t, api.Message{})
	if b[0] != 165 || !bytes.Equal(b[36:], []byte{165, 0, 0, 0}) {
		t.Errorf("Put of a zero message = %x", b)
	}
	if b, errno := Put(api.Message{Lane: 3}); b != nil || errno != api.ErrArg {
		t.Errorf("Put of lane 3 = %x, %d", b, errno)
	}
	checkRefused(t, b[:39], api.ErrShort)
	b[39] = 1
	checkRefused(t, b, api.ErrSum)
}

// P12.1: what may be, field by field.
func TestMay(t *testing.T) {
	for _, m := range good() {
		if !May(m) || !May(engaged(m, true)) {
			t.Errorf("May(%v) = false", m)
		}
	}
	for _, m := range bad() {
		if May(m) || May(engaged(m, true)) {
			t.Errorf("May(%v) = true", m)
		}
	}
}

// P12.1: every lane, mode and level, each alone and beside fields at their ends.
func TestMayAll(t *testing.T) {
	for n := range 256 {
		c := uint8(n)
		for _, m := range []api.Message{{}, unlike} {
			lane, mode, level := m, m, m
			lane.Lane, mode.Mode, level.Level = c, c, c
			if May(lane) != (c <= 2) || May(mode) != (c <= 6) || May(level) != (c <= 2) {
				t.Errorf("%d: May = %t, %t, %t", n, May(lane), May(mode), May(level))
			}
		}
	}
}

// P12.1: Heard, Frame and Engage change nothing about whether it may be.
func TestMayWhatever(t *testing.T) {
	for _, frame := range []uint32{0, 1, 1 << 20, 1<<20 + 1, 1 << 31, math.MaxUint32} {
		for heard := range 256 {
			m := api.Message{Frame: frame, Heard: [api.Lanes]uint8{uint8(heard), uint8(255 - heard), uint8(heard ^ 0x55)}}
			if !May(m) || !May(engaged(m, true)) {
				t.Errorf("May(%v) = false", m)
			}
			m.Lane = 3
			if May(m) || May(engaged(m, true)) {
				t.Errorf("May(%v) = true", m)
			}
		}
	}
}

// P12.1: each byte in its place.
func TestPutPlaces(t *testing.T) {
	want := withSum(unlikeBytes)
	if got := mustPut(t, unlike); !bytes.Equal(got, want) {
		t.Errorf("Put(%v) = %x, not %x", unlike, got, want)
	}
	want = changed(want, 11, 0)
	if got := mustPut(t, engaged(unlike, false)); !bytes.Equal(got, want) {
		t.Errorf("Put without Engage = %x, not %x", got, want)
	}
	checkGet(t, withSum(unlikeBytes), unlike, api.OK)
	checkGet(t, want, engaged(unlike, false), api.OK)
}

// P12.1: the bytes of whatever may be are those of the chapter's list.
func TestPut(t *testing.T) {
	for _, m := range append(good(), random(2000)...) {
		if got, want := mustPut(t, m), bytesOf(m); !bytes.Equal(got, want) {
			t.Errorf("Put(%v) = %x, not %x", m, got, want)
		}
	}
}

// P12.1: what may not be has no bytes.
func TestPutRefused(t *testing.T) {
	for _, m := range bad() {
		for _, m := range []api.Message{m, engaged(m, true)} {
			if b, errno := Put(m); b != nil || errno != api.ErrArg {
				t.Errorf("Put(%v) = %x, %d", m, b, errno)
			}
		}
	}
}

// P12.1: the sum of few bytes.
func TestSum(t *testing.T) {
	checkSum(t, nil, 0)
	checkSum(t, []byte{}, 0)
	for n := range 256 {
		checkSum(t, []byte{byte(n)}, uint32(n))
		checkSum(t, []byte{0, byte(n)}, 2*uint32(n))
		checkSum(t, []byte{byte(n), 1, 2}, uint32(n)+8)
	}
	checkSum(t, []byte{1, 2, 3}, 14)
	checkSum(t, []byte{3, 2, 1}, 10)
	checkSum(t, bytes.Repeat([]byte{255}, 36), 255*666)
}

// P12.1: the place counts on behind 255, behind 65535.
func TestSumPlaces(t *testing.T) {
	for _, at := range []int{0, 1, 35, 254, 255, 256, 257, 65534, 65535, 65536, 1 << 20, 1<<24 - 2, 1<<24 - 1} {
		b := make([]byte, at+1)
		b[at] = 255
		checkSum(t, b, uint32(255*(at+1)))
	}
}

// P12.1: what runs over 32 bits is left out: of the sum, and of one byte by its place.
func TestSumOver(t *testing.T) {
	for _, many := range []int{5802, 5803, 5804, 5805, 5806, 10000, 70000} {
		b := bytes.Repeat([]byte{255}, many)
		checkSum(t, b, sumOf(b))
		checkSum(t, b[:many-1], sumOf(b[:many-1]))
	}
	b := make([]byte, 1<<25)
	b[1<<25-1] = 255
	checkSum(t, b, 1<<32-1<<25)
	b[1<<25-1] = 128
	checkSum(t, b, 0)
	b[0] = 7
	checkSum(t, b, 7)
}

// P12.1: bytes by chance.
func TestSumRandom(t *testing.T) {
	r := rand.New(rand.NewSource(1))
	for many := range 200 {
		b := make([]byte, many)
		r.Read(b)
		checkSum(t, b, sumOf(b))
	}
}

// P12.1: bytes too few, too many, and another first one; the rest may be as it will.
func TestGetForm(t *testing.T) {
	b := bytesOf(unlike)
	checkRefused(t, nil, api.ErrShort)
	checkRefused(t, []byte{}, api.ErrShort)
	checkRefused(t, []byte{165}, api.ErrShort)
	checkRefused(t, []byte{0}, api.ErrShort)
	checkRefused(t, b[:39], api.ErrShort)
	checkGet(t, b, unlike, api.OK)
	checkRefused(t, append(bytes.Clone(b), 0), api.ErrForm)
	for n := range 256 {
		want, wantErrno := api.Message{}, api.ErrForm
		if n == 165 {
			want, wantErrno = unlike, api.OK
		}
		checkGet(t, changed(b, 0, byte(n)), want, wantErrno)
	}
}

// P12.1: of several faults the one that the promise names first.
func TestGetFirstFault(t *testing.T) {
	b := bytesOf(unlike)
	wrongSum := func(b []byte) []byte {
		b = bytes.Clone(b)
		b[36]++
		return b
	}
	for _, c := range []struct {
		name string
		b    []byte
		want api.Errno
	}{
		{"short, another first one", changed(b, 0, 0)[:39], api.ErrShort},
		{"short, a wrong sum", wrongSum(b)[:39], api.ErrShort},
		{"short, engage 2", changed(b, 11, 2)[:39], api.ErrShort},
		{"more, a wrong sum", append(wrongSum(b), 0), api.ErrForm},
		{"more, another first one", append(changed(b, 0, 0), 0), api.ErrForm},
		{"more, lane 3", append(changed(b, 1, 3), 0), api.ErrForm},
		{"another first one, a wrong sum", wrongSum(changed(b, 0, 164)), api.ErrForm},
		{"a first one of 0, a wrong sum", wrongSum(changed(b, 0, 0)), api.ErrForm},
		{"another first one, engage 2", changed(changed(b, 0, 164), 11, 2), api.ErrForm},
		{"a wrong sum, engage 2", wrongSum(changed(b, 11, 2)), api.ErrSum},
		{"a wrong sum, lane 3", wrongSum(changed(b, 1, 3)), api.ErrSum},
		{"a wrong sum, mode 7", wrongSum(changed(b, 9, 7)), api.ErrSum},
		{"a wrong sum, level 3", wrongSum(changed(b, 10, 3)), api.ErrSum},
		{"a wrong sum, a great command", wrongSum(changed(b, 19, 127)), api.ErrSum},
		{"engage 2, lane 3", changed(changed(b, 11, 2), 1, 3), api.ErrForm},
		{"all zero", make([]byte, 40), api.ErrForm},
		{"all zero but the first", append([]byte{165}, make([]byte, 39)...), api.ErrSum},
	} {
		if m, errno := Get(c.b); m != (api.Message{}) || errno != c.want {
			t.Errorf("%s: Get = %v, %d, not %d", c.name, m, errno, c.want)
		}
	}
}

// P12.1: with the right sum, a message that may not be.
func TestGetMayNotBe(t *testing.T) {
	for _, m := range bad() {
		checkRefused(t, bytesOf(m), api.ErrForm)
		checkRefused(t, bytesOf(engaged(m, true)), api.ErrForm)
	}
}

// P12.1: with the right sum, every lane, mode, level and Engage.
func TestGetBytes(t *testing.T) {
	b := bytesOf(unlike)
	for n := range 256 {
		c := byte(n)
		lane, mode, level := unlike, unlike, unlike
		lane.Lane, mode.Mode, level.Level = c, c, c
		for _, x := range []struct {
			at  int
			m   api.Message
			may bool
		}{
			{1, lane, n <= 2},
			{9, mode, n <= 6},
			{10, level, n <= 2},
			{11, engaged(unlike, n == 1), n <= 1},
		} {
			if x.may {
				checkGet(t, changed(b, x.at, c), x.m, api.OK)
			} else {
				checkRefused(t, changed(b, x.at, c), api.ErrForm)
			}
		}
	}
}

// P12.2: what is put is got, what is got is put as the same bytes.
func TestThereAndBack(t *testing.T) {
	for _, m := range append(good(), random(2000)...) {
		for _, m := range []api.Message{m, engaged(m, !m.Engage)} {
			checkGet(t, mustPut(t, m), m, api.OK)
			b := bytesOf(m)
			got, errno := Get(b)
			if again, _ := Put(got); errno != api.OK || !bytes.Equal(again, b) {
				t.Errorf("Put of what Get(%x) tells = %x", b, again)
			}
		}
	}
}

// P12.2: whatever bytes have the right sum, either they are refused, or they are put as they were.
func TestBackAndThere(t *testing.T) {
	kept := 0
	for at := range 36 {
		for n := range 256 {
			b := changed(bytesOf(unlike), at, byte(n))
			m, errno := Get(b)
			if errno != api.OK {
				continue
			}
			kept++
			if again := mustPut(t, m); !bytes.Equal(again, b) {
				t.Errorf("Put of what Get(%x) tells = %x", b, again)
			}
		}
	}
	// Frame and Heard, and the lowest five bytes of each command, are kept at nearly every value.
	if kept < 20*256 {
		t.Errorf("only %d are kept", kept)
	}
}

// somePut are bytes of messages that are told apart from changed ones.
func somePut(t *testing.T) [][]byte {
	var l [][]byte
	for _, m := range append(good(), random(100)...) {
		l = append(l, mustPut(t, m))
	}
	return l
}

// P12.2: each byte changed to every other value.
func TestOneByteChanged(t *testing.T) {
	for _, b := range somePut(t) {
		for at, was := range b {
			want := api.ErrSum
			if at == 0 {
				want = api.ErrForm
			}
			for n := 1; n < 256; n++ {
				b[at] = was + byte(n)
				checkRefused(t, b, want)
			}
			b[at] = was
		}
	}
}

// P12.2: each two neighbours that are unlike changed for one another, those across the sum's first byte too.
func TestNeighboursChanged(t *testing.T) {
	var seen [39]bool
	for _, b := range somePut(t) {
		for at := range 39 {
			if b[at] == b[at+1] {
				continue
			}
			seen[at] = true
			want := api.ErrSum
			if at == 0 {
				want = api.ErrForm
			}
			b[at], b[at+1] = b[at+1], b[at]
			checkRefused(t, b, want)
			b[at], b[at+1] = b[at+1], b[at]
		}
	}
	// The highest two bytes of a command that may be are both 0 or both 255.
	for at, was := range seen {
		if alike := at == 18 || at == 26 || at == 34; was == alike {
			t.Errorf("bytes %d and %d were unlike: %t", at, at+1, was)
		}
	}
}

// P12.1, P12.2: cut at every length, and with more behind it.
func TestOtherLengths(t *testing.T) {
	for _, b := range somePut(t) {
		for n := range 40 {
			checkRefused(t, b[:n], api.ErrShort)
		}
		for _, more := range [][]byte{{0}, {165}, {255}, make([]byte, 40), b} {
			checkRefused(t, append(bytes.Clone(b), more...), api.ErrForm)
		}
		// From its second byte on it is long enough, with one behind it, and begins with another one.
		checkRefused(t, append(bytes.Clone(b[1:]), 165), api.ErrForm)
	}
}

// P12.1: the room behind the bytes counts for nothing, and stays as it is, as the bytes do.
func TestArgumentsStay(t *testing.T) {
	room := append(bytesOf(unlike), 1, 2, 3, 4)
	was := bytes.Clone(room)
	checkGet(t, room[:40], unlike, api.OK)
	checkRefused(t, room[:39], api.ErrShort)
	checkRefused(t, room[:41], api.ErrForm)
	checkSum(t, room[:36], sumOf(room[:36]))
	checkSum(t, room[:0], 0)
	if !bytes.Equal(room, was) {
		t.Errorf("%x came to be %x", was, room)
	}
}

// P12.1: what is answered is new memory.
func TestNewMemory(t *testing.T) {
	want := bytesOf(unlike)
	one, two := mustPut(t, unlike), mustPut(t, unlike)
	clear(one[:cap(one)])
	if !bytes.Equal(two, want) {
		t.Errorf("a second answer came to be %x", two)
	}
	if got := mustPut(t, unlike); !bytes.Equal(got, want) {
		t.Errorf("a later answer is %x", got)
	}
	b := bytes.Clone(want)
	m, _ := Get(b)
	clear(b)
	if m != unlike {
		t.Errorf("a message came to be %v", m)
	}
}
