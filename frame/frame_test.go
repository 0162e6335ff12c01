package frame_test

import (
	"bytes"
	"encoding/binary"
	"hash/crc32"
	"slices"
	"strings"
	"testing"

	"choir/api"
	"choir/frame"
)

// slowSum reckons a sum bit by bit, as the chapter's words go.
func slowSum(b []byte) uint32 {
	sum := uint32(0xffffffff)
	for _, x := range b {
		for i := range 8 {
			out := (sum ^ uint32(x)>>i) & 1
			sum >>= 1
			if out == 1 {
				sum ^= 0xedb88320
			}
		}
	}
	return ^sum
}

// headed gives a frame's bytes, made in another way than Wrap does: length and
// sum are what they are told to be.
func headed(length, sum uint32, payload []byte) []byte {
	b := binary.BigEndian.AppendUint32(nil, length)
	b = binary.BigEndian.AppendUint32(b, sum)
	return append(b, payload...)
}

// framed gives the right frame of payload, whatever its length.
func framed(payload []byte) []byte {
	length := uint32(len(payload))
	sum := crc32.ChecksumIEEE(append(binary.BigEndian.AppendUint32(nil, length), payload...))
	return headed(length, sum, payload)
}

// noise gives bytes that look like any, the same ones each time.
func noise(length int) []byte {
	b := make([]byte, length)
	x := uint64(length)*0x9e3779b97f4a7c15 + 1
	for i := range b {
		x ^= x << 13
		x ^= x >> 7
		x ^= x << 17
		b[i] = byte(x >> 24)
	}
	return b
}

// payloads: of frames, the greatest one among them.
func payloads() [][]byte {
	return [][]byte{
		nil, {}, {0}, {0xff}, []byte("a"), []byte("123456789"), make([]byte, 8), make([]byte, 300), bytes.Repeat([]byte{0xff}, 8),
		noise(7), noise(8), noise(9), noise(255), noise(256), noise(257), noise(65535), noise(api.MaxFrame), framed([]byte("a frame in a frame")),
	}
}

// P4.1: Sum is CRC-32, by sums that are known.
func TestSumKnown(t *testing.T) {
	for _, c := range []struct {
		b    string
		want uint32
	}{
		{"123456789", 0xcbf43926},
		{"", 0},
		{"a", 0xe8b7be43},
		{"abc", 0x352441c2},
		{"\x00", 0xd202ef8d},
		{"\xff", 0xff000000},
		{"\x00\x00\x00\x00", 0x2144df1c},
		{"\xff\xff\xff\xff", 0xffffffff},
		{strings.Repeat("\x00", 32), 0x190a55ad},
		{"The quick brown fox jumps over the lazy dog", 0x414fa339},
	} {
		if got := frame.Sum([]byte(c.b)); got != c.want {
			t.Errorf("Sum(%q): %08x; wanted %08x", c.b, got, c.want)
		}
	}
	if got := frame.Sum(nil); got != 0 {
		t.Errorf("Sum(nil): %08x", got)
	}
}

// P4.1: Sum at all bytes, at each single bit, at all lengths up to some, and
// at long ones.
func TestSum(t *testing.T) {
	hold := func(b []byte) {
		t.Helper()
		if got, want := frame.Sum(b), slowSum(b); got != want || want != crc32.ChecksumIEEE(b) {
			t.Errorf("Sum of %d bytes: %08x; wanted %08x", len(b), got, want)
		}
	}
	for x := range 256 {
		for y := range 256 {
			hold([]byte{byte(x), byte(y)})
		}
	}
	for i := range 8 * 40 {
		b := make([]byte, 40)
		b[i/8] = 1 << (i % 8)
		hold(b)
	}
	for length := range 300 {
		hold(noise(length))
	}
	hold(noise(1 << 20))
	hold(bytes.Repeat([]byte{0xff}, 100000))
}

// P4.1: Wrap puts length, sum and payload behind b.
func TestWrap(t *testing.T) {
	for _, payload := range payloads() {
		for _, ahead := range []string{"", "\x00", "ahead of it"} {
			got, err := frame.Wrap([]byte(ahead), payload)
			if want := append([]byte(ahead), framed(payload)...); err != api.OK || !bytes.Equal(got, want) {
				t.Errorf("Wrap of %d bytes behind %q: %d bytes, %v; wanted %d", len(payload), ahead, len(got), err, len(want))
			}
		}
	}
	for _, c := range []struct{ payload, want string }{
		{"", "\x00\x00\x00\x00\x21\x44\xdf\x1c"},
		{"a", "\x00\x00\x00\x01\xe5\x8c\x97\x92a"},
		{"123456789", "\x00\x00\x00\x09\xde\x9c\x40\xc0123456789"},
	} {
		if got, err := frame.Wrap(nil, []byte(c.payload)); err != api.OK || string(got) != c.want {
			t.Errorf("Wrap of %q: %x, %v; wanted %x", c.payload, got, err, c.want)
		}
	}
	if got, err := frame.Wrap(nil, nil); err != api.OK || !bytes.Equal(got, framed(nil)) {
		t.Errorf("Wrap of nothing: %x, %v", got, err)
	}
}

// P4.1: Wrap of the greatest payload, and of one past it.
func TestWrapRefuses(t *testing.T) {
	if got, err := frame.Wrap([]byte("b"), make([]byte, 65536)); err != api.OK || len(got) != 1+8+65536 {
		t.Errorf("Wrap of the greatest payload: %d bytes, %v", len(got), err)
	}
	for _, length := range []int{65537, 65538, 70000, 1 << 17, 1 << 24} {
		for _, ahead := range [][]byte{nil, []byte("b")} {
			if got, err := frame.Wrap(ahead, make([]byte, length)); err != api.ErrSize || got != nil {
				t.Errorf("Wrap of %d bytes: %d bytes, %v; wanted nothing, ErrSize", length, len(got), err)
			}
		}
	}
}

func wantFrame(t *testing.T, what string, b, payload []byte) {
	t.Helper()
	got, n, err := frame.Open(b)
	if err != api.OK || n != 8+len(payload) || !bytes.Equal(got, payload) {
		t.Errorf("Open of %s: %d bytes, %d, %v; wanted %d bytes", what, len(got), n, err, len(payload))
	}
}

func wantNoFrame(t *testing.T, what string, b []byte, want api.Errno) {
	t.Helper()
	got, n, err := frame.Open(b)
	if err != want || n != 0 || got != nil {
		t.Errorf("Open of %s: %x, %d, %v; wanted %v alone", what, got, n, err, want)
	}
	if l, n := frame.Scan(b); len(l) != 0 || n != 0 {
		t.Errorf("Scan of %s: %d payloads, %d; wanted none", what, len(l), n)
	}
}

// P4.1: Open opens what Wrap wraps, whatever is behind it.
func TestOpen(t *testing.T) {
	for _, payload := range payloads() {
		b, err := frame.Wrap(nil, payload)
		if err != api.OK {
			t.Fatal(err)
		}
		for _, behind := range [][]byte{nil, {0}, []byte("behind it"), noise(70000), b, b[:len(b)-1]} {
			wantFrame(t, "a frame", slices.Concat(b, behind), payload)
		}
	}
}

// P4.1: ErrMore of each piece of a frame.
func TestOpenAsksForMore(t *testing.T) {
	for _, payload := range payloads() {
		b := framed(payload)
		for i := 0; i < len(b); i += 1 + i/50 {
			wantNoFrame(t, "a piece", b[:i], api.ErrMore)
		}
		wantNoFrame(t, "all but one", b[:len(b)-1], api.ErrMore)
	}
	wantNoFrame(t, "nothing", nil, api.ErrMore)
	wantNoFrame(t, "nothing", []byte{}, api.ErrMore)
	room := framed([]byte("payload"))
	wantNoFrame(t, "what stands in the room behind", room[:len(room)-1], api.ErrMore)
	wantNoFrame(t, "what stands in the room behind", room[:4], api.ErrMore)
}

// P4.1: of several errors the first one in the chapter's order: eight bytes,
// the length, the payload, the sum.
func TestOpenOrder(t *testing.T) {
	for _, length := range []uint32{65537, 65538, 1 << 17, 1 << 24, 1<<31 - 1, 1 << 31, 1<<32 - 65536, 1<<32 - 8, 1<<32 - 1} {
		wantNoFrame(t, "seven bytes of too great a frame", headed(length, 0, nil)[:7], api.ErrMore)
		wantNoFrame(t, "the head of too great a frame", headed(length, 0, nil), api.ErrSize)
		wantNoFrame(t, "too great a frame, a piece", headed(length, 0, noise(100)), api.ErrSize)
		wantNoFrame(t, "too great a frame, another sum", headed(length, 1, noise(1<<18)), api.ErrSize)
	}
	wantNoFrame(t, "too great a frame, its sum", framed(noise(65537)), api.ErrSize)
	wantNoFrame(t, "a head of the greatest frame", headed(65536, 0, nil), api.ErrMore)
	wantNoFrame(t, "the greatest frame but one byte", headed(65536, 0, noise(65535)), api.ErrMore)
	wantNoFrame(t, "the greatest frame, another sum", headed(65536, 0, noise(65536)), api.ErrSum)
	wantNoFrame(t, "a payload that isn't there, another sum", headed(1, 0, nil), api.ErrMore)
	wantNoFrame(t, "no payload, another sum", headed(0, 0, nil), api.ErrSum)
	wantNoFrame(t, "no payload, another sum", headed(0, 0, []byte("behind")), api.ErrSum)
	wantNoFrame(t, "eight noughts", make([]byte, 8), api.ErrSum)
	wantFrame(t, "no payload", headed(0, 0x2144df1c, nil), nil)
}

// P4.1: the sum is that of length and payload, and of nothing else.
func TestOpenAsksForTheSum(t *testing.T) {
	for _, payload := range payloads() {
		length := uint32(len(payload))
		right := binary.BigEndian.Uint32(framed(payload)[4:])
		for _, sum := range []uint32{
			right + 1, right - 1, ^right, 0, right<<24 | right>>8, right<<8 | right>>24, crc32.ChecksumIEEE(payload),
			slowSum(append(slices.Clone(payload), 0, 0, 0, 0)), slowSum(headed(length, 0, payload)),
			slowSum(append(binary.LittleEndian.AppendUint32(nil, length), payload...)),
		} {
			if sum != right {
				wantNoFrame(t, "another sum", headed(length, sum, payload), api.ErrSum)
			}
		}
	}
}

// turnedError tells what Open is to answer of a frame of payload, of which a
// bit was turned, and of what is behind it.
func turnedError(b []byte) api.Errno {
	length := binary.BigEndian.Uint32(b)
	switch {
	case length > 65536:
		return api.ErrSize
	case int(length) > len(b)-8:
		return api.ErrMore
	}
	return api.ErrSum
}

// nextBit goes through all bits of a short frame; of a long one through all of
// its head, and some of its payload.
func nextBit(i, bits int) int {
	if bits <= 8*400 || i < 8*9 {
		return i + 1
	}
	return i + i/4
}

// P4.2: a frame with a bit turned isn't one.
func TestTurnedBit(t *testing.T) {
	for _, payload := range payloads() {
		for _, behind := range [][]byte{nil, noise(600)} {
			right := framed(payload)
			bits := 8 * len(right)
			b := append(right, behind...)
			for i := 0; i < bits; i = nextBit(i, bits) {
				b[i/8] ^= 1 << (i % 8)
				wantNoFrame(t, "a frame with a bit turned", b, turnedError(b))
				b[i/8] ^= 1 << (i % 8)
			}
			wantFrame(t, "a frame with nothing turned", b, payload)
		}
	}
}

// P4.2: nor is one with more bits turned near one another, or a byte changed.
func TestTurnedBits(t *testing.T) {
	right := framed(noise(40))
	for i := range len(right) {
		for x := 1; x < 256; x++ {
			b := append(slices.Clone(right), noise(300)...)
			b[i] ^= byte(x)
			wantNoFrame(t, "a frame with a byte changed", b, turnedError(b))
		}
	}
	for i := 8 * 8; i < 8*len(right)-32; i++ {
		for _, turned := range []uint32{0xffffffff, 0xedb88320, 0x80000001, 0xdb710641} {
			b := slices.Clone(right)
			for j := range 32 {
				b[(i+j)/8] ^= byte(turned>>j&1) << ((i + j) % 8)
			}
			wantNoFrame(t, "a frame with bits turned", b, api.ErrSum)
		}
	}
}

func wantScan(t *testing.T, what string, b []byte, want [][]byte, taken int) {
	t.Helper()
	got, n := frame.Scan(b)
	if n != taken || !slices.EqualFunc(got, want, bytes.Equal) {
		t.Errorf("Scan of %s: %d payloads, %d; wanted %d, %d", what, len(got), n, len(want), taken)
	}
}

// P4.1: Scan gives the payloads of the frames from the beginning, whatever
// stands behind them that is none.
func TestScan(t *testing.T) {
	var b []byte
	want := payloads()
	for i, payload := range want {
		for _, torn := range [][]byte{
			nil, {0}, noise(8), headed(65537, 0, nil), headed(5, 0, []byte("12345")), make([]byte, 100), framed([]byte("torn"))[:11],
			append(headed(0, 0, nil), framed([]byte("a frame behind what is none"))...),
		} {
			wantScan(t, "frames", slices.Concat(b, torn), want[:i], len(b))
		}
		b, _ = frame.Wrap(b, payload)
	}
	wantScan(t, "all frames", b, want, len(b))
	wantScan(t, "nothing", nil, nil, 0)
}

// P4.1: wherever frames are cut, those ahead of the cut are there.
func TestScanCut(t *testing.T) {
	var b []byte
	var want [][]byte
	var ends []int
	for i := range 12 {
		want = append(want, noise(3*i))
		b, _ = frame.Wrap(b, want[i])
		ends = append(ends, len(b))
	}
	for cut := range len(b) + 1 {
		whole, taken := 0, 0
		for i, end := range ends {
			if end <= cut {
				whole, taken = i+1, end
			}
		}
		wantScan(t, "frames that are cut", b[:cut], want[:whole], taken)
		turned := slices.Clone(b)
		if cut < len(b) {
			turned[cut] ^= 0x10
			wantScan(t, "frames, one bit turned", turned, want[:whole], taken)
		}
	}
}

// Scan goes through many frames, and ends soon.
func TestScanMany(t *testing.T) {
	const many = 1 << 19
	b := bytes.Repeat(framed(nil), many)
	if l, n := frame.Scan(b); len(l) != many || n != len(b) {
		t.Errorf("Scan of %d frames: %d, %d", many, len(l), n)
	}
	b = bytes.Repeat(framed(noise(65536)), 100)
	if l, n := frame.Scan(b[:len(b)-1]); len(l) != 99 || n != 99*(8+65536) {
		t.Errorf("Scan of 100 frames, the last one torn: %d, %d", len(l), n)
	}
}

// What is handed in stays, with the room behind it, and what is answered is
// new memory.
func TestWrapIsNewMemory(t *testing.T) {
	const handed = "ahead of it, and a spare room that is long enough for all"
	for _, length := range []int{0, 5, len(handed)} {
		for _, size := range []int{0, 1, 20} {
			room, payload := []byte(handed), noise(size+30)
			got, err := frame.Wrap(room[:length], payload[:size])
			if err != api.OK || string(room) != handed || !bytes.Equal(payload, noise(size+30)) {
				t.Fatalf("Wrap changed what was handed in: %q, %x, %v", room, payload, err)
			}
			scribble(got)
			if string(room) != handed || !bytes.Equal(payload, noise(size+30)) {
				t.Fatalf("Wrap shares memory with what was handed in: %q, %x", room, payload)
			}
		}
	}
	both := []byte("payload ahead and payload")
	got, err := frame.Wrap(both, both)
	if err != api.OK || !bytes.Equal(got, append([]byte("payload ahead and payload"), framed(both)...)) {
		t.Errorf("Wrap of a payload behind itself: %q, %v", got, err)
	}
}

// scribble writes over all of b, and over the room behind it.
func scribble(b []byte) {
	b = b[:cap(b)]
	for i := range b {
		b[i] = '#'
	}
}

func TestOpenIsNewMemory(t *testing.T) {
	b := append(framed([]byte("payload")), "behind"...)
	before := slices.Clone(b)
	got, _, err := frame.Open(b)
	if err != api.OK || !bytes.Equal(b, before) {
		t.Fatalf("Open changed what was handed in: %q, %v", b, err)
	}
	scribble(got)
	if !bytes.Equal(b, before) {
		t.Fatalf("a payload shares memory with its frame: %q", b)
	}
	got, _, _ = frame.Open(b)
	clear(b)
	if string(got) != "payload" {
		t.Errorf("a payload changed with its frame: %q", got)
	}
	frame.Sum(before)
	if !bytes.Equal(before, append(framed([]byte("payload")), "behind"...)) {
		t.Errorf("Sum changed what was handed in: %q", before)
	}
}

func TestScanIsNewMemory(t *testing.T) {
	want := [][]byte{[]byte("one"), nil, []byte("three"), nil, []byte("five")}
	var b []byte
	for _, payload := range want {
		b = append(b, framed(payload)...)
	}
	before := slices.Clone(b)
	for i := range want {
		got, n := frame.Scan(b)
		if n != len(b) || !bytes.Equal(b, before) {
			t.Fatalf("Scan changed what was handed in: %q, %d", b, n)
		}
		scribble(got[i])
		if !bytes.Equal(b, before) {
			t.Fatalf("payload %d shares memory with its frame: %q", i, b)
		}
		for j := range want {
			if j != i && !bytes.Equal(got[j], want[j]) {
				t.Errorf("payload %d shares memory with payload %d: %q", j, i, got[j])
			}
		}
	}
}

// checkOpen: what Open takes is just what Wrap gives of its payload, and what
// Scan takes first.
func checkOpen(t *testing.T, b []byte) {
	payload, n, err := frame.Open(b)
	l, taken := frame.Scan(b)
	if err != api.OK {
		if payload != nil || n != 0 || len(l) != 0 || taken != 0 {
			t.Errorf("of %x: %x, %d, %v; scanned %d, %d", b, payload, n, err, len(l), taken)
		}
		return
	}
	again, err := frame.Wrap(nil, payload)
	if err != api.OK || n > len(b) || !bytes.Equal(again, b[:n]) {
		t.Errorf("Open of %x: %x, %d; wrapped again: %x, %v", b, payload, n, again, err)
	}
	if len(l) == 0 || !bytes.Equal(l[0], payload) || taken < n {
		t.Errorf("Scan of %x: %x, %d", b, l, taken)
	}
}

func FuzzOpen(f *testing.F) {
	for _, payload := range payloads() {
		f.Add(framed(payload))
		f.Add(append(framed(payload), framed([]byte("behind"))...))
	}
	f.Fuzz(checkOpen)
}
