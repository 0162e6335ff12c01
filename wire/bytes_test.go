package wire_test

import (
	"bytes"
	"math"
	"strings"
	"testing"

	"choir/api"
	"choir/wire"
)

const spelt uint64 = 0x81f2a3b4c5d6e7f8

// speltBytes: spelt's bytes, the highest first.
const speltBytes = "\x81\xf2\xa3\xb4\xc5\xd6\xe7\xf8"

// wantBytes holds the answer of a call that puts something against want.
func wantBytes(t *testing.T, what string, got []byte, err api.Errno, want string) {
	t.Helper()
	if err != api.OK || string(got) != want {
		t.Errorf("%s: %x, %v; wanted %x", what, got, err, want)
	}
}

func wantNoBytes(t *testing.T, what string, got []byte, err, want api.Errno) {
	t.Helper()
	if err != want || got != nil {
		t.Errorf("%s: %x, %v; wanted nothing, %v", what, got, err, want)
	}
}

// P3.1: PutU puts the lowest n bytes, the highest of them first.
func TestPutU(t *testing.T) {
	for _, b := range []string{"", "a", "ahead of it"} {
		for n := -3; n <= 12; n++ {
			taken := min(max(n, 0), 8)
			got := wire.PutU([]byte(b), spelt, n)
			wantBytes(t, "PutU", got, api.OK, b+speltBytes[8-taken:])
		}
		wantBytes(t, "PutU of the greatest n", wire.PutU([]byte(b), spelt, math.MaxInt), api.OK, b+speltBytes)
		wantBytes(t, "PutU of the least n", wire.PutU([]byte(b), spelt, math.MinInt), api.OK, b)
	}
	wantBytes(t, "PutU of 0", wire.PutU(nil, 0, 3), api.OK, "\x00\x00\x00")
	wantBytes(t, "PutU of 1", wire.PutU(nil, 1, 8), api.OK, "\x00\x00\x00\x00\x00\x00\x00\x01")
	wantBytes(t, "PutU of 256", wire.PutU(nil, 256, 1), api.OK, "\x00")
	wantBytes(t, "PutU of the greatest", wire.PutU(nil, math.MaxUint64, 8), api.OK, strings.Repeat("\xff", 8))
}

func wantU(t *testing.T, b string, n int, want uint64, there bool) {
	t.Helper()
	if got, ok := wire.ReadU([]byte(b), n); got != want || ok != there {
		t.Errorf("ReadU(%x, %d): %x, %v; wanted %x, %v", b, n, got, ok, want, there)
	}
}

// P3.1: ReadU reads the first n bytes; false, if there aren't so many.
func TestReadU(t *testing.T) {
	for n := range 9 {
		for length := range 9 {
			if n <= length {
				wantU(t, speltBytes[:length], n, spelt>>(64-8*n), true)
			} else {
				wantU(t, speltBytes[:length], n, 0, false)
			}
		}
		wantU(t, speltBytes+"behind it", n, spelt>>(64-8*n), true)
	}
	for _, n := range []int{-1, -2, -8, 9, 10, 16, math.MaxInt, math.MinInt} {
		wantU(t, "", n, 0, false)
		wantU(t, speltBytes+speltBytes+speltBytes, n, 0, false)
	}
	wantU(t, strings.Repeat("\xff", 8), 8, math.MaxUint64, true)
	wantU(t, "\x00\x00\x01", 3, 1, true)
}

// ReadU and ReadText look at b alone, not at the room behind it.
func TestReadsEndWhereTheBytesEnd(t *testing.T) {
	room := []byte("\x00\x03abc and more")
	if v, ok := wire.ReadU(room[:3], 4); v != 0 || ok {
		t.Errorf("ReadU reads behind its bytes: %x, %v", v, ok)
	}
	if s, n, err := wire.ReadText(room[:4], 10); s != "" || n != 0 || err != api.ErrWire {
		t.Errorf("ReadText reads behind its bytes: %q, %d, %v", s, n, err)
	}
	if v, n, err := wire.Read([]byte("\x03\x00\x03abc")[:5]); v.S != "" || n != 0 || err != api.ErrWire {
		t.Errorf("Read reads behind its bytes: %+v, %d, %v", v, n, err)
	}
}

// P3.1: PutText puts two bytes of the length, and the text; ErrSize past most,
// and past what two bytes tell.
func TestPutText(t *testing.T) {
	for _, c := range []struct {
		length int
		ahead  string
	}{{0, "\x00\x00"}, {1, "\x00\x01"}, {32, "\x00\x20"}, {255, "\x00\xff"}, {256, "\x01\x00"}, {257, "\x01\x01"}, {65534, "\xff\xfe"}, {65535, "\xff\xff"}} {
		s := strings.Repeat("\xe4", c.length)
		for _, most := range []int{c.length, c.length + 1, 65535, 65536, math.MaxInt} {
			got, err := wire.PutText([]byte("b"), s, most)
			wantBytes(t, "PutText", got, err, "b"+c.ahead+s)
		}
		for _, most := range []int{c.length - 1, -1, -2, math.MinInt} {
			got, err := wire.PutText([]byte("b"), s, most)
			wantNoBytes(t, "PutText of a longer text", got, err, api.ErrSize)
		}
	}
	for _, length := range []int{65536, 65537, 70000, 1 << 17} {
		for _, most := range []int{0, 65535, length, math.MaxInt} {
			got, err := wire.PutText(nil, strings.Repeat("x", length), most)
			wantNoBytes(t, "PutText of what two bytes don't tell", got, err, api.ErrSize)
		}
	}
	got, err := wire.PutText(nil, "a\x00\u20ac", 5)
	wantBytes(t, "PutText of any bytes", got, err, "\x00\x05a\x00\xe2\x82\xac")
}

func wantText(t *testing.T, b string, most int, want string) {
	t.Helper()
	if s, n, err := wire.ReadText([]byte(b), most); s != want || n != 2+len(want) || err != api.OK {
		t.Errorf("ReadText of %d bytes, at most %d: %q, %d, %v; wanted %q", len(b), most, s, n, err, want)
	}
}

func wantNoText(t *testing.T, b string, most int) {
	t.Helper()
	if s, n, err := wire.ReadText([]byte(b), most); s != "" || n != 0 || err != api.ErrWire {
		t.Errorf("ReadText of %d bytes, at most %d: %q, %d, %v; wanted ErrWire alone", len(b), most, s, n, err)
	}
}

// P3.1: ReadText reads what PutText puts; ErrWire, if it isn't all there, or
// is longer than most.
func TestReadText(t *testing.T) {
	for _, length := range []int{0, 1, 2, 32, 255, 256, 257, 65535} {
		s := strings.Repeat("\xe4", length)
		b, _ := wire.PutText(nil, s, length)
		for _, most := range []int{length, length + 1, 65535, math.MaxInt} {
			wantText(t, string(b), most, s)
			wantText(t, string(b)+"behind it", most, s)
		}
		for _, most := range []int{length - 1, -1, math.MinInt} {
			wantNoText(t, string(b), most)
			wantNoText(t, string(b)+"behind it", most)
		}
		for _, short := range []int{0, 1, 2, len(b) / 2, len(b) - 1} {
			if short < len(b) {
				wantNoText(t, string(b[:short]), 65535)
			}
		}
	}
}

// answers: what the calls that put something answer behind b.
func answers(b []byte) map[string][]byte {
	short, _ := wire.PutText(b, "abc", 3)
	empty, _ := wire.PutText(b, "", 0)
	none, _ := wire.Put(b, api.Value{})
	some, _ := wire.Put(b, list(whole(-1), text("abc"), list()))
	return map[string][]byte{
		"PutU": wire.PutU(b, math.MaxUint64, 8), "PutU of no bytes": wire.PutU(b, 1, 0), "PutU of fewer": wire.PutU(b, 1, -1),
		"PutText": short, "PutText of nothing": empty, "Put of nil": none, "Put": some,
	}
}

// What is handed in stays, with the room behind it, and what is answered is
// new memory.
func TestPutsAreNewMemory(t *testing.T) {
	const handed = "ahead of it, and a spare room that is long enough for all"
	for _, length := range []int{0, 5, len(handed)} {
		room := []byte(handed)
		for what, got := range answers(room[:length]) {
			if string(room) != handed {
				t.Fatalf("%s changed what was handed in: %q", what, room)
			}
			for i := range got {
				got[i] = '#'
			}
			_ = append(got, "behind it"...)
			if string(room) != handed {
				t.Fatalf("%s shares memory with what was handed in: %q", what, room)
			}
		}
	}
}

// Nothing that was read changes with the bytes that it came from, and reading
// leaves these as they are.
func TestReadsAreNewMemory(t *testing.T) {
	b := []byte("\x00\x03abc")
	s, _, _ := wire.ReadText(b, 3)
	clear(b)
	if s != "abc" {
		t.Errorf("a text changed with its bytes: %q", s)
	}
	b, _ = wire.Put(nil, list(text("abc"), list(text("d"))))
	before := bytes.Clone(b)
	v, _, err := wire.Read(b)
	if err != api.OK || !bytes.Equal(b, before) {
		t.Fatalf("Read: %v, changed %x to %x", err, before, b)
	}
	clear(b)
	if len(v.L) != 2 || v.L[0].S != "abc" || len(v.L[1].L) != 1 || v.L[1].L[0].S != "d" {
		t.Errorf("a value changed with its bytes: %+v", v)
	}
}
