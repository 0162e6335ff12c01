package object_test

import (
	"math"
	"slices"
	"strconv"
	"strings"
	"testing"

	"choir/api"
	"choir/object"
	"choir/value"
)

// canonNaN: the bits of the one NaN that is answered.
const canonNaN uint64 = 0x7ff8000000000001

func whole(i int64) api.Value { return api.Value{Kind: api.Int, I: i} }

func float(f float64) api.Value { return api.Value{Kind: api.Float, F: f} }

func nan(bits uint64) api.Value { return float(math.Float64frombits(bits)) }

func minusNought() api.Value { return float(math.Copysign(0, -1)) }

func text(s string) api.Value { return api.Value{Kind: api.Text, S: s} }

func long(n int) api.Value { return text(strings.Repeat("x", n)) }

func list(l ...api.Value) api.Value { return api.Value{Kind: api.List, L: l} }

func times(n int, v api.Value) api.Value { return list(slices.Repeat([]api.Value{v}, n)...) }

func stray(kind int) api.Value { return api.Value{Kind: kind, I: 1, F: 1, S: "a"} }

func args(l ...api.Value) []api.Value { return l }

// has gives an entry of a table, or an account of a ledger.
func has(name string, v api.Value) api.Value { return list(text(name), v) }

// numbered gives n entries, k00, k01 .., which have v.
func numbered(n int, v api.Value) api.Value {
	l := list()
	for i := range n {
		l.L = append(l.L, has("k"+strconv.Itoa(i/10)+strconv.Itoa(i%10), v))
	}
	return l
}

// aStep gives a step as a value.
func aStep(group, method string, behind ...api.Value) api.Value {
	return list(append(args(text(group), text(method)), behind...)...)
}

// nested gives v in n lists.
func nested(n int, v api.Value) api.Value {
	for range n {
		v = list(v)
	}
	return v
}

// filled gives a list of size bytes on the wire, in texts.
func filled(size int) api.Value {
	v := list()
	for left := size - value.Size(v); left > 0; left -= min(left, 203) {
		v.L = append(v.L, long(min(left, 203)-3))
	}
	return v
}

// ring gives a list that holds itself.
func ring() api.Value {
	v := list(whole(0), float(0), api.Value{})
	v.L[2] = v
	return v
}

// crowd fills the fields that v's kind hasn't, and tells NaNs by other bits.
func crowd(v api.Value) api.Value {
	c := api.Value{Kind: v.Kind, I: 7, F: math.Inf(-1), S: "crowd", L: args(text("x"), stray(9))}
	switch v.Kind {
	case api.Int:
		c.I = v.I
	case api.Float:
		c.F = v.F
		if math.IsNaN(v.F) {
			c.F = math.Float64frombits(0xfff0000000000123)
		}
	case api.Text:
		c.S = v.S
	case api.List:
		c.L = nil
		for _, item := range v.L {
			c.L = append(c.L, crowd(item))
		}
	}
	return c
}

// spoil overwrites a list to its last corner, and the room behind it.
func spoil(l []api.Value) {
	l = l[:cap(l)]
	for i := range l {
		spoil(l[i].L)
		l[i] = stray(77)
	}
}

// exact holds two values against each other field by field, floats by bits.
func exact(a, b api.Value) bool {
	return a.Kind == b.Kind && a.I == b.I && math.Float64bits(a.F) == math.Float64bits(b.F) && a.S == b.S && slices.EqualFunc(a.L, b.L, exact)
}

// raw gives b, and v's bytes, whether v may stand there or not: kind, and Int
// and Float in eight bytes, Text behind two of its length, List behind one.
func raw(b []byte, v api.Value) []byte {
	b = append(b, byte(v.Kind))
	switch v.Kind {
	case api.Int:
		return eight(b, uint64(v.I))
	case api.Float:
		return eight(b, math.Float64bits(v.F))
	case api.Text:
		return append(append(b, byte(len(v.S)/256), byte(len(v.S)%256)), v.S...)
	case api.List:
		b = append(b, byte(len(v.L)))
		for _, item := range v.L {
			b = raw(b, item)
		}
	}
	return b
}

func eight(b []byte, n uint64) []byte {
	for shift := 56; shift >= 0; shift -= 8 {
		b = append(b, byte(n>>shift))
	}
	return b
}

// marked: the bytes that Snapshots begin with, class by class.
func marked() map[string]byte {
	return map[string]byte{"counter": 1, "ledger": 2, "orch": 3, "queue": 4, "register": 5, "table": 6}
}

func classes() []string {
	return []string{"counter", "ledger", "orch", "queue", "register", "table"}
}

// noClasses: names that no class has.
func noClasses() []string {
	return []string{
		"", " ", "Counter", "counter ", " counter", "counters", "counte", "ledger\x00", "tabl\xff", "orch/run", "groups",
		"group", "object", "guard", "value", "nil", "0", "1", "\x01", "counterledger", strings.Repeat("table", 1<<16),
	}
}

// wantDo asks for the state and the answer to the last bit, of what is handed
// in as it is, and of what holds more than its kinds have.
func wantDo(t *testing.T, class string, was api.Value, method string, l []api.Value, then, answer api.Value) {
	t.Helper()
	for _, state := range args(was, crowd(was)) {
		for _, given := range [][]api.Value{l, crowd(list(l...)).L} {
			gotThen, gotAnswer, err := object.Do(class, state, method, given)
			if err != api.OK || !exact(gotThen, then) || !exact(gotAnswer, answer) {
				t.Errorf("Do(%s, %.80s, %q, %.80s): %.80s, %.80s, %v; wanted %.80s, %.80s",
					class, value.Text(was), method, value.Text(list(l...)), value.Text(gotThen), value.Text(gotAnswer), err, value.Text(then), value.Text(answer))
			}
		}
	}
	if !object.Right(class, then) {
		t.Errorf("Right(%s, %.80s), behind %s: false", class, value.Text(then), method)
	}
}

// wantError asks for the error, and nothing beside it.
func wantError(t *testing.T, class string, was api.Value, method string, l []api.Value, want api.Errno) {
	t.Helper()
	then, answer, err := object.Do(class, was, method, l)
	if err != want || !exact(then, api.Value{}) || !exact(answer, api.Value{}) {
		t.Errorf("Do(%.20q, %.80q, %.40q, %.80q): %.40q, %.40q, %v; wanted %v alone",
			class, value.Text(was), method, value.Text(list(l...)), value.Text(then), value.Text(answer), err, want)
	}
}

// wantSnapshot asks for the bytes, of the state as it is, and of one that holds
// more than its kinds have.
func wantSnapshot(t *testing.T, class string, state api.Value, want []byte) {
	t.Helper()
	for _, given := range args(state, crowd(state)) {
		if b, err := object.Snapshot(class, given); err != api.OK || !slices.Equal(b, want) {
			t.Errorf("Snapshot(%s, %.80s): %.40x, %v; wanted %.40x", class, value.Text(state), b, err, want)
		}
	}
}

// wantRestored asks for the state to the last bit.
func wantRestored(t *testing.T, class string, b []byte, want api.Value) {
	t.Helper()
	if state, err := object.Restore(class, b); err != api.OK || !exact(state, want) {
		t.Errorf("Restore(%s, %.40x): %.80s, %v; wanted %.80s", class, b, value.Text(state), err, value.Text(want))
	}
}

// wantNoBytes asks for ErrWire, and nothing beside it.
func wantNoBytes(t *testing.T, class string, b []byte) {
	t.Helper()
	if state, err := object.Restore(class, b); err != api.ErrWire || !exact(state, api.Value{}) {
		t.Errorf("Restore(%.20q, %.40x of %d bytes): %.80s, %v; wanted %v alone", class, b, len(b), value.Text(state), err, api.ErrWire)
	}
}

// snapshot gives a Snapshot that must be there.
func snapshot(t *testing.T, class string, state api.Value) []byte {
	t.Helper()
	b, err := object.Snapshot(class, state)
	if err != api.OK {
		t.Fatalf("Snapshot(%s, %.80s): %v", class, value.Text(state), err)
	}
	return b
}
