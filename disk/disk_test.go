package disk_test

import (
	"math"
	"strings"
	"testing"

	"choir/disk"
)

// below: cuts, and numbers of bytes, that count as 0.
var below = []int{math.MinInt, math.MinInt + 1, math.MinInt32, -1 << 16, -2, -1}

// above: cuts, and numbers of bytes, that are more than a test's disk has.
var above = []int{100, 1 << 16, math.MaxInt32, math.MaxInt32 + 1, math.MaxUint32, math.MaxInt - 1, math.MaxInt}

// want asks a disk for what is there, and for how many of it are sure.
func want(t *testing.T, d *disk.Disk, there string, sure int) {
	t.Helper()
	if b, n := d.Bytes(), d.Sure(); string(b) != there || n != sure {
		t.Errorf("%q, %d of them sure; wanted %q, %d", b, n, there, sure)
	}
}

// holding gives a disk of what is sure, and of what isn't behind it.
func holding(sure, unsure string) *disk.Disk {
	d := disk.New()
	d.Append([]byte(sure))
	d.Sync()
	d.Append([]byte(unsure))
	return d
}

// The chapter's example.
func TestExample(t *testing.T) {
	d := disk.New()
	d.Append([]byte("ab"))
	d.Sync()
	d.Append([]byte("c"))
	want(t, d, "abc", 2)
	d.Crash(0)
	want(t, d, "ab", 2)
}

// P20.1: a new disk has nothing, and each new one is by itself.
func TestNew(t *testing.T) {
	d := disk.New()
	want(t, d, "", 0)
	d.Append([]byte("a"))
	d.Sync()
	want(t, disk.New(), "", 0)
	want(t, d, "a", 1)
}

// P20.1: of a disk without bytes nothing comes, whatever is done with it.
func TestNothing(t *testing.T) {
	d := disk.New()
	for _, n := range append(append([]int{0, 1}, below...), above...) {
		d.Truncate(n)
		want(t, d, "", 0)
		d.Crash(n)
		want(t, d, "", 0)
		d.Sync()
		want(t, d, "", 0)
		d.Append(nil)
		want(t, d.Clone(), "", 0)
	}
	d.Append([]byte("a"))
	want(t, d, "a", 0)
}

// P20.1: what is appended stands behind all, and isn't sure.
func TestAppend(t *testing.T) {
	d := disk.New()
	there := ""
	for _, x := range []string{"a", "bc", "", "\x00", "\xff\x80\x00", "a", strings.Repeat("long ", 100), "\n"} {
		d.Append([]byte(x))
		there += x
		want(t, d, there, 0)
	}
	d.Append(nil)
	d.Append([]byte{})
	want(t, d, there, 0)
}

// P20.1: each byte is kept, whatever it is.
func TestEachByte(t *testing.T) {
	d := disk.New()
	all := make([]byte, 256)
	for i := range all {
		all[i] = byte(i)
		d.Append(all[i : i+1])
	}
	d.Append(all)
	want(t, d, string(all)+string(all), 0)
	d.Sync()
	want(t, d.Clone(), string(all)+string(all), 512)
	d.Truncate(256)
	want(t, d, string(all), 256)
}

// P20.1: Sync makes all sure, what comes behind it isn't.
func TestSync(t *testing.T) {
	d := disk.New()
	d.Sync()
	want(t, d, "", 0)
	d.Append([]byte("abc"))
	want(t, d, "abc", 0)
	d.Sync()
	want(t, d, "abc", 3)
	d.Sync()
	want(t, d, "abc", 3)
	d.Append(nil)
	want(t, d, "abc", 3)
	d.Append([]byte("d"))
	want(t, d, "abcd", 3)
	d.Append([]byte("ef"))
	want(t, d, "abcdef", 3)
	d.Sync()
	want(t, d, "abcdef", 6)
}

// P20.1: Truncate leaves the first n bytes, all of them sure, whether they were
// or not.
func TestTruncate(t *testing.T) {
	const sure, unsure = "abc", "def"
	for n, there := range []string{"", "a", "ab", "abc", "abcd", "abcde", "abcdef"} {
		d := holding(sure, unsure)
		d.Truncate(n)
		want(t, d, there, n)
		d.Crash(0)
		want(t, d, there, n)
		d.Append([]byte("x"))
		want(t, d, there+"x", n)
	}
	for _, n := range below {
		d := holding(sure, unsure)
		d.Truncate(n)
		want(t, d, "", 0)
	}
	for _, n := range append([]int{7, 8}, above...) {
		d := holding(sure, unsure)
		d.Truncate(n)
		want(t, d, sure+unsure, len(sure+unsure))
	}
}

// P20.1: Truncate, where nothing is sure, and where all is.
func TestTruncateOneKind(t *testing.T) {
	for n, there := range []string{"", "a", "ab", "abc", "abc"} {
		for _, d := range []*disk.Disk{holding("", "abc"), holding("abc", "")} {
			d.Truncate(n)
			want(t, d, there, len(there))
		}
	}
}

// P20.1: Crash leaves what is sure, and the first cut bytes of what isn't: they
// are sure then.
func TestCrash(t *testing.T) {
	const sure, unsure = "abc", "def"
	for cut, there := range []string{"abc", "abcd", "abcde", "abcdef"} {
		d := holding(sure, unsure)
		d.Crash(cut)
		want(t, d, there, len(there))
		d.Append([]byte("xy"))
		want(t, d, there+"xy", len(there))
		d.Crash(1)
		want(t, d, there+"x", len(there)+1)
		d.Crash(0)
		want(t, d, there+"x", len(there)+1)
	}
	for _, cut := range below {
		d := holding(sure, unsure)
		d.Crash(cut)
		want(t, d, sure, len(sure))
	}
	for _, cut := range append([]int{4, 5, 6, 7}, above...) {
		d := holding(sure, unsure)
		d.Crash(cut)
		want(t, d, sure+unsure, len(sure+unsure))
	}
}

// P20.1: Crash, where nothing is sure, and where all is.
func TestCrashOneKind(t *testing.T) {
	for cut, there := range []string{"", "a", "ab", "abc", "abc"} {
		d := holding("", "abc")
		d.Crash(cut)
		want(t, d, there, len(there))
		d = holding("abc", "")
		d.Crash(cut)
		want(t, d, "abc", 3)
	}
}

// P20.1: a cut byte is gone, and what is appended then stands in its place.
func TestCutBytesAreGone(t *testing.T) {
	d := holding("abc", "defgh")
	d.Crash(1)
	d.Append([]byte("XY"))
	want(t, d, "abcdXY", 4)
	d.Truncate(2)
	d.Append([]byte("Z"))
	want(t, d, "abZ", 2)
	d.Truncate(3)
	d.Truncate(8)
	want(t, d, "abZ", 3)
	d.Truncate(0)
	d.Truncate(8)
	d.Crash(8)
	d.Sync()
	want(t, d, "", 0)
}

// P20.1: Bytes and Sure change nothing.
func TestAskingChangesNothing(t *testing.T) {
	d := holding("abc", "def")
	for range 5 {
		want(t, d, "abcdef", 3)
		d.Clone()
	}
	d.Crash(0)
	want(t, d, "abc", 3)
}

// P20.1: a clone has the same bytes, as many of them sure; from then on each of
// the two is by itself.
func TestClone(t *testing.T) {
	for _, x := range []struct {
		sure, unsure string
	}{
		{"", ""}, {"abc", ""}, {"", "abc"}, {"abc", "def"}, {"a", strings.Repeat("long ", 100)},
	} {
		all := x.sure + x.unsure
		for _, turned := range []bool{false, true} {
			one := holding(x.sure, x.unsure)
			other := one.Clone()
			want(t, other, all, len(x.sure))
			if turned {
				one, other = other, one
			}
			one.Append([]byte("xy"))
			other.Append([]byte("zuv"))
			want(t, one, all+"xy", len(x.sure))
			want(t, other, all+"zuv", len(x.sure))
			one.Sync()
			want(t, other, all+"zuv", len(x.sure))
			other.Crash(0)
			want(t, other, x.sure, len(x.sure))
			want(t, one, all+"xy", len(all)+2)
			one.Truncate(0)
			want(t, one, "", 0)
			want(t, other, x.sure, len(x.sure))
			other.Sync()
			one.Append([]byte(strings.Repeat("-", len(all))))
			want(t, other, x.sure, len(x.sure))
		}
	}
}

// P20.1: clones of clones, whose bytes have spare room behind them.
func TestClonesOfClones(t *testing.T) {
	d := disk.New()
	for range 5 {
		d.Append([]byte("ab"))
	}
	d.Truncate(4)
	var clones []*disk.Disk
	for i := range 10 {
		clones = append(clones, d.Clone())
		d = d.Clone()
		d.Append([]byte{byte('0' + i)})
	}
	for i, c := range clones {
		want(t, c, "abab"+"0123456789"[:i], 4)
		c.Append([]byte("x"))
	}
	for i, c := range clones {
		want(t, c, "abab"+"0123456789"[:i]+"x", 4)
	}
	want(t, d, "abab0123456789", 4)
}

// Rule 3 of what holds everywhere: what is appended is neither changed nor kept.
func TestAppendKeepsNothing(t *testing.T) {
	d := disk.New()
	given := []byte("abcdefgh")
	for _, b := range [][]byte{given[:0], given[:3], given[3:5], given[5:5:8]} {
		d.Append(b)
	}
	d.Append([]byte("XYZ"))
	d.Truncate(4)
	d.Append([]byte("UVW"))
	d.Crash(1)
	if string(given) != "abcdefgh" {
		t.Errorf("what was handed in is %q now", given)
	}
	want(t, d, "abcdU", 5)
	for i := range given {
		given[i] = '-'
	}
	want(t, d, "abcdU", 5)
}

// Rule 3 of what holds everywhere: what is answered is new memory, the room
// behind it included.
func TestBytesAreNewMemory(t *testing.T) {
	d := holding("abc", "def")
	first := d.Bytes()
	spoil(first)
	want(t, d, "abcdef", 3)
	first, second := d.Bytes(), d.Bytes()
	spoil(first)
	if string(second) != "abcdef" {
		t.Errorf("two answers share memory: %q", second)
	}
	d.Append([]byte("ghi"))
	d.Crash(1)
	d.Append([]byte("xyz"))
	if string(second) != "abcdef" {
		t.Errorf("an answer became %q", second)
	}
	spoil(second)
	spoil(d.Clone().Bytes())
	want(t, d, "abcdxyz", 4)
}

// P20.1: a disk's own bytes, appended to it.
func TestAppendOwnBytes(t *testing.T) {
	d := holding("ab", "c")
	for range 3 {
		d.Append(d.Bytes())
	}
	want(t, d, strings.Repeat("abc", 8), 2)
	d.Truncate(2)
	d.Append(d.Bytes()[1:])
	want(t, d, "abb", 2)
}

// spoil overwrites bytes, and the room behind them.
func spoil(b []byte) {
	b = b[:cap(b)]
	for i := range b {
		b[i] = '-'
	}
}
