package wire_test

import (
	"bytes"
	"math"
	"reflect"
	"strings"
	"testing"
	"time"

	"choir/api"
	"choir/value"
	"choir/wire"
)

const canonNaN = 0x7ff8000000000001

func whole(i int64) api.Value { return api.Value{Kind: api.Int, I: i} }

func float(f float64) api.Value { return api.Value{Kind: api.Float, F: f} }

func nan(bits uint64) api.Value { return float(math.Float64frombits(bits)) }

func text(s string) api.Value { return api.Value{Kind: api.Text, S: s} }

func long(n int) api.Value { return text(strings.Repeat("x", n)) }

func list(l ...api.Value) api.Value { return api.Value{Kind: api.List, L: l} }

func negativeZero() float64 { return math.Copysign(0, -1) }

// times gives a list of n times v.
func times(n int, v api.Value) api.Value {
	l := make([]api.Value, n)
	for i := range l {
		l[i] = v
	}
	return list(l...)
}

// nested gives v in n lists.
func nested(n int, v api.Value) api.Value {
	for range n {
		v = list(v)
	}
	return v
}

// filled gives a list of that Size, in texts.
func filled(size int) api.Value {
	var l []api.Value
	for size -= 2; size > 0; size -= min(size, 203) {
		l = append(l, long(min(size, 203)-3))
	}
	return list(l...)
}

// crowded gives every kind with the fields of all others filled.
func crowded(kind int) api.Value {
	return api.Value{Kind: kind, I: 1 << 40, F: math.Inf(1), S: strings.Repeat("y", api.MaxText), L: []api.Value{whole(7), text("z")}}
}

// form: a value that is clean, and its bytes.
type form struct {
	v api.Value
	b string
}

const nought = "\x00\x00\x00\x00\x00\x00\x00\x00"

// forms: values with their bytes, written out.
func forms() []form {
	return []form{
		{api.Value{}, "\x00"},
		{whole(0), "\x01" + nought},
		{whole(1), "\x01\x00\x00\x00\x00\x00\x00\x00\x01"},
		{whole(-1), "\x01\xff\xff\xff\xff\xff\xff\xff\xff"},
		{whole(0x0102030405060708), "\x01\x01\x02\x03\x04\x05\x06\x07\x08"},
		{whole(math.MaxInt64), "\x01\x7f\xff\xff\xff\xff\xff\xff\xff"},
		{whole(math.MinInt64), "\x01\x80\x00\x00\x00\x00\x00\x00\x00"},
		{float(0), "\x02" + nought},
		{float(negativeZero()), "\x02\x80\x00\x00\x00\x00\x00\x00\x00"},
		{float(1), "\x02\x3f\xf0\x00\x00\x00\x00\x00\x00"},
		{float(-0.1), "\x02\xbf\xb9\x99\x99\x99\x99\x99\x9a"},
		{float(math.SmallestNonzeroFloat64), "\x02\x00\x00\x00\x00\x00\x00\x00\x01"},
		{float(math.MaxFloat64), "\x02\x7f\xef\xff\xff\xff\xff\xff\xff"},
		{float(math.Inf(1)), "\x02\x7f\xf0\x00\x00\x00\x00\x00\x00"},
		{float(math.Inf(-1)), "\x02\xff\xf0\x00\x00\x00\x00\x00\x00"},
		{nan(canonNaN), "\x02\x7f\xf8\x00\x00\x00\x00\x00\x01"},
		{text(""), "\x03\x00\x00"},
		{text("a\x00\xff"), "\x03\x00\x03a\x00\xff"},
		{text("\u20ac"), "\x03\x00\x03\xe2\x82\xac"},
		{long(255), "\x03\x00\xff" + strings.Repeat("x", 255)},
		{long(api.MaxText), "\x03\x01\x00" + strings.Repeat("x", 256)},
		{list(), "\x04\x00"},
		{list(api.Value{}), "\x04\x01\x00"},
		{list(list()), "\x04\x01\x04\x00"},
		{list(whole(2), text("b"), list(text("c"), api.Value{}), float(2)), "\x04\x04\x01\x00\x00\x00\x00\x00\x00\x00\x02\x03\x00\x01b\x04\x02\x03\x00\x01c\x00\x02\x40\x00\x00\x00\x00\x00\x00\x00"},
		{times(api.MaxItems, api.Value{}), "\x04\x40" + strings.Repeat("\x00", 64)},
		{times(api.MaxItems, list(list())), "\x04\x40" + strings.Repeat("\x04\x01\x04\x00", 64)},
		{nested(api.MaxDepth, text("in")), strings.Repeat("\x04\x01", 8) + "\x03\x00\x02in"},
		{nested(api.MaxDepth-1, list()), strings.Repeat("\x04\x01", 7) + "\x04\x00"},
		{list(nested(api.MaxDepth-1, list()).L[0], nested(api.MaxDepth-1, api.Value{})), "\x04\x02" + strings.Repeat("\x04\x01", 6) + "\x04\x00" + strings.Repeat("\x04\x01", 7) + "\x00"},
	}
}

// alike holds two values against each other field by field, floats by bits.
func alike(a, b api.Value) bool {
	if a.Kind != b.Kind || a.I != b.I || math.Float64bits(a.F) != math.Float64bits(b.F) || a.S != b.S || len(a.L) != len(b.L) {
		return false
	}
	for i := range a.L {
		if !alike(a.L[i], b.L[i]) {
			return false
		}
	}
	return true
}

// P3.2: Put puts a byte of the kind, and what it has.
func TestPut(t *testing.T) {
	for _, c := range forms() {
		for _, ahead := range []string{"", "\x00", "ahead of it"} {
			got, err := wire.Put([]byte(ahead), c.v)
			wantBytes(t, "Put of "+value.Text(c.v), got, err, ahead+c.b)
		}
	}
}

// P3.2: Put puts what Clean leaves.
func TestPutCleans(t *testing.T) {
	for _, c := range []form{
		{crowded(api.Nil), "\x00"},
		{crowded(api.Int), "\x01\x00\x00\x01\x00\x00\x00\x00\x00"},
		{crowded(api.Float), "\x02\x7f\xf0\x00\x00\x00\x00\x00\x00"},
		{crowded(api.Text), "\x03\x01\x00" + strings.Repeat("y", 256)},
		{api.Value{Kind: api.List, I: 5, F: 6, S: "7", L: []api.Value{crowded(api.Nil)}}, "\x04\x01\x00"},
		{api.Value{Kind: api.Nil, S: strings.Repeat("y", 1000), L: []api.Value{{Kind: 9}}}, "\x00"},
		{nan(0x7ff0000000000001), "\x02\x7f\xf8\x00\x00\x00\x00\x00\x01"},
		{nan(0x7ff8000000000000), "\x02\x7f\xf8\x00\x00\x00\x00\x00\x01"},
		{nan(math.MaxUint64), "\x02\x7f\xf8\x00\x00\x00\x00\x00\x01"},
		{list(nan(0xfff8000000000001)), "\x04\x01\x02\x7f\xf8\x00\x00\x00\x00\x00\x01"},
		{api.Value{Kind: api.List, L: []api.Value{}}, "\x04\x00"},
	} {
		got, err := wire.Put([]byte("b"), c.v)
		wantBytes(t, "Put of "+value.Text(c.v), got, err, "b"+c.b)
	}
}

// P3.2: Put answers Check's error, and nothing beside it.
func TestPutRefuses(t *testing.T) {
	ring := list(whole(1), api.Value{})
	ring.L[1] = ring
	for _, v := range []api.Value{
		{Kind: 5}, {Kind: -1}, {Kind: 256}, {Kind: 257}, {Kind: math.MaxInt}, {Kind: math.MinInt},
		list(whole(1), api.Value{Kind: 9}), list(api.Value{Kind: 9}, long(257)), list(long(257), api.Value{Kind: 9}),
		long(257), long(65536), long(1 << 20), list(long(257)), times(65, api.Value{}), times(256, api.Value{}), times(257, api.Value{}), list(times(65, api.Value{})),
		nested(9, api.Value{}), nested(8, list()), nested(300, api.Value{}), filled(4097), filled(5000), times(64, times(64, whole(1))), ring,
	} {
		want := value.Check(v)
		if want == api.OK {
			t.Fatal("Check refuses none of it")
		}
		got, err := wire.Put([]byte("b"), v)
		wantNoBytes(t, "Put", got, err, want)
	}
	for _, c := range []struct {
		v    api.Value
		want api.Errno
	}{{api.Value{Kind: 5}, api.ErrBadArgs}, {list(long(257), api.Value{Kind: -1}), api.ErrBadArgs}, {long(257), api.ErrSize}, {filled(4097), api.ErrSize}} {
		got, err := wire.Put(nil, c.v)
		wantNoBytes(t, "Put", got, err, c.want)
	}
}

func wantValue(t *testing.T, what, b string, want api.Value, took int) {
	t.Helper()
	got, n, err := wire.Read([]byte(b))
	if err != api.OK || n != took || !alike(got, want) {
		t.Errorf("Read of %s: %+v, %d, %v; wanted %+v, %d", what, got, n, err, want, took)
	}
}

func wantNoValue(t *testing.T, what, b string) {
	t.Helper()
	got, n, err := wire.Read([]byte(b))
	if err != api.ErrWire || n != 0 || !reflect.DeepEqual(got, api.Value{}) {
		t.Errorf("Read of %s: %+v, %d, %v; wanted ErrWire alone", what, got, n, err)
	}
}

// P3.2: Read reads what Put puts, whatever is behind it, and nothing less.
func TestRead(t *testing.T) {
	for _, c := range forms() {
		what := value.Text(c.v)
		for _, behind := range []string{"", "\x00", "\x09\xff", strings.Repeat("\x04", 5000)} {
			wantValue(t, what, c.b+behind, c.v, len(c.b))
		}
		for i := range len(c.b) {
			wantNoValue(t, "a piece of "+what, c.b[:i])
		}
	}
}

// P3.2: ErrWire of what no value has for its bytes.
func TestReadRefuses(t *testing.T) {
	for kind := 5; kind < 256; kind++ {
		odd := string([]byte{byte(kind)}) + nought + nought
		wantNoValue(t, "no such kind", odd)
		wantNoValue(t, "no such kind in a list", "\x04\x02\x00"+odd)
	}
	for _, bits := range []string{
		"\x7f\xf8\x00\x00\x00\x00\x00\x00", "\x7f\xf8\x00\x00\x00\x00\x00\x02", "\xff\xf8\x00\x00\x00\x00\x00\x01", "\xff\xf8\x00\x00\x00\x00\x00\x00",
		"\x7f\xf0\x00\x00\x00\x00\x00\x01", "\xff\xf0\x00\x00\x00\x00\x00\x01", "\x7f\xff\xff\xff\xff\xff\xff\xff", "\xff\xff\xff\xff\xff\xff\xff\xff",
	} {
		wantNoValue(t, "another NaN", "\x02"+bits)
		wantNoValue(t, "another NaN in a list", "\x04\x01\x02"+bits)
		wantValue(t, "an Int of a NaN's bits", "\x01"+bits, whole(int64(beyond(bits))), 9)
	}
	for n := 257; n <= 65535; n += 257 {
		b := string([]byte{3, byte(n >> 8), byte(n)}) + strings.Repeat("x", n)
		wantNoValue(t, "a longer text", b)
		wantNoValue(t, "a longer text in a list", "\x04\x01"+b)
	}
	for n := 65; n < 256; n++ {
		b := string([]byte{4, byte(n)}) + strings.Repeat("\x00", n)
		wantNoValue(t, "a longer list", b)
		wantNoValue(t, "a longer list in a list", "\x04\x01"+b)
	}
	for n := 9; n < 3000; n += 1 + n/7 {
		wantNoValue(t, "deeper lists", strings.Repeat("\x04\x01", n)+"\x00")
		wantNoValue(t, "deeper lists, the last one empty", strings.Repeat("\x04\x01", n-1)+"\x04\x00")
		wantNoValue(t, "deeper lists behind others", "\x04\x02\x04\x00"+strings.Repeat("\x04\x01", n-1)+"\x00")
	}
}

// beyond tells the number of eight bytes in another way than ReadU does.
func beyond(b string) uint64 {
	var v uint64
	for i := range len(b) {
		v |= uint64(b[i]) << (8 * (7 - i))
	}
	return v
}

// unchecked gives a value's bytes without asking for its size.
func unchecked(t *testing.T, v api.Value) string {
	t.Helper()
	b := []byte{api.List, byte(len(v.L))}
	for _, item := range v.L {
		var err api.Errno
		if b, err = wire.Put(b, item); err != api.OK {
			t.Fatalf("an item of it is refused: %v", err)
		}
	}
	return string(b)
}

// P3.2: Put and Read at the greatest Size, and one past it.
func TestGreatestSize(t *testing.T) {
	got, err := wire.Put(nil, filled(api.MaxSize))
	if err != api.OK || len(got) != api.MaxSize {
		t.Errorf("Put of the greatest size: %d bytes, %v", len(got), err)
	}
	for _, behind := range []string{"", "\x00", strings.Repeat("x", 10000)} {
		wantValue(t, "the greatest size", unchecked(t, filled(api.MaxSize))+behind, filled(api.MaxSize), api.MaxSize)
		wantValue(t, "one less", unchecked(t, filled(api.MaxSize-1))+behind, filled(api.MaxSize-1), api.MaxSize-1)
		wantNoValue(t, "one more", unchecked(t, filled(api.MaxSize+1))+behind)
		wantNoValue(t, "more", unchecked(t, filled(5000))+behind)
	}
	const row = "\x04\x40"
	ints := strings.Repeat("\x01"+nought, 64)
	wantNoValue(t, "64 lists of 64", row+strings.Repeat(row+ints, 64))
}

// P3.2: whatever the bytes are, Read ends soon.
func TestReadEnds(t *testing.T) {
	const much = 1 << 24
	done := make(chan struct{})
	go func() {
		defer close(done)
		for _, piece := range []string{"\x04\x01", "\x04\x40", "\x04\xff", "\x04", "\x04\x02\x00", "\xff", "\x03\xff\xff", "\x04\x02\x04\x00"} {
			wantNoValue(t, "much of "+piece, strings.Repeat(piece, much/len(piece)))
		}
	}()
	select {
	case <-done:
	case <-time.After(20 * time.Second):
		t.Fatal("Read goes on for long")
	}
}

// eachBytes does do with all strings of so many of these bytes.
func eachBytes(of string, length int, b []byte, do func(b []byte)) {
	if length == 0 {
		do(b)
		return
	}
	for i := range len(of) {
		eachBytes(of, length-1, append(b, of[i]), do)
	}
}

// checkForm: what Read takes is right, and has just these bytes; what it
// doesn't take is answered by ErrWire alone.
func checkForm(t *testing.T, b []byte) {
	t.Helper()
	v, n, err := wire.Read(b)
	if err != api.OK {
		wantNoValue(t, "bytes", string(b))
		return
	}
	again, put := wire.Put(nil, v)
	if n < 1 || n > len(b) || n != value.Size(v) || value.Check(v) != api.OK || !alike(v, value.Clean(v)) || put != api.OK || !bytes.Equal(again, b[:n]) {
		t.Errorf("Read of %x: %+v, %d; put again: %x, %v", b, v, n, again, put)
	}
}

// P3.2: a value has one form; bytes that aren't it are none.
func TestOneForm(t *testing.T) {
	for length := range 7 {
		eachBytes("\x00\x01\x02\x03\x04\x05\x41\xff", length, nil, func(b []byte) { checkForm(t, b) })
	}
	for _, c := range forms() {
		if len(c.b) > 100 {
			continue
		}
		for i := range len(c.b) {
			for x := range 256 {
				b := []byte(c.b + nought)
				b[i] = byte(x)
				checkForm(t, b)
			}
		}
	}
}

// P3.3: Read(Put(v)) is Clean(v).
func TestThereAndBack(t *testing.T) {
	l := []api.Value{
		crowded(api.Nil), crowded(api.Int), crowded(api.Float), crowded(api.Text), crowded(api.List),
		nan(0x7ff0000000000001), nan(0xffffffffffffffff), list(nan(0xfff8000000000000), list(crowded(api.Text))),
		filled(api.MaxSize), {Kind: api.List, L: []api.Value{}},
	}
	for _, c := range forms() {
		l = append(l, c.v)
	}
	for _, v := range l {
		b, err := wire.Put([]byte("ahead"), v)
		if err != api.OK {
			t.Fatalf("Put of %s: %v", value.Text(v), err)
		}
		if len(b) != 5+value.Size(v) {
			t.Errorf("%s: %d bytes, of Size %d", value.Text(v), len(b)-5, value.Size(v))
		}
		wantValue(t, value.Text(v), string(b[5:])+"behind", value.Clean(v), value.Size(v))
	}
}

func FuzzRead(f *testing.F) {
	for _, c := range forms() {
		f.Add([]byte(c.b))
	}
	f.Fuzz(checkForm)
}
