package guard_test

import (
	"errors"
	"math"
	"reflect"
	"slices"
	"strings"
	"testing"

	"choir/api"
	"choir/guard"
)

// canonNaN: the bits of the one NaN that is answered.
const canonNaN uint64 = 0x7ff8000000000001

func whole(i int64) api.Value { return api.Value{Kind: api.Int, I: i} }

func float(f float64) api.Value { return api.Value{Kind: api.Float, F: f} }

func nan(bits uint64) api.Value { return float(math.Float64frombits(bits)) }

func text(s string) api.Value { return api.Value{Kind: api.Text, S: s} }

func list(l ...api.Value) api.Value { return api.Value{Kind: api.List, L: l} }

func times(n int, v api.Value) api.Value { return list(slices.Repeat([]api.Value{v}, n)...) }

// nested gives v in n lists.
func nested(n int, v api.Value) api.Value {
	for range n {
		v = list(v)
	}
	return v
}

// ring gives a list that holds itself n times, behind what is ahead.
func ring(n int, ahead ...api.Value) api.Value {
	v := list(append(ahead, make([]api.Value, n)...)...)
	for i := range n {
		v.L[len(ahead)+i] = v
	}
	return v
}

// crowd fills the fields that v's kind hasn't.
func crowd(v api.Value) api.Value {
	c := api.Value{Kind: v.Kind, I: 7, F: math.NaN(), S: "crowd", L: []api.Value{text("x"), {Kind: 9}}}
	switch v.Kind {
	case api.Int:
		c.I = v.I
	case api.Float:
		c.F = v.F
	case api.Text:
		c.S = v.S
	case api.List:
		c.L = []api.Value{}
		for _, item := range v.L {
			c.L = append(c.L, crowd(item))
		}
	}
	return c
}

// spoil changes each value of a list, and those of its lists.
func spoil(l []api.Value) {
	for i := range l {
		spoil(l[i].L)
		l[i] = text("spoilt")
	}
}

// exact holds two values against each other field by field, floats by bits.
func exact(a, b api.Value) bool {
	return a.Kind == b.Kind && a.I == b.I && math.Float64bits(a.F) == math.Float64bits(b.F) && a.S == b.S && slices.EqualFunc(a.L, b.L, exact)
}

// samples: values in their clean form.
func samples() []api.Value {
	return []api.Value{
		{}, whole(0), whole(1), whole(-1), whole(math.MinInt64), whole(math.MaxInt64),
		nan(canonNaN), float(0), float(math.Copysign(0, -1)), float(0.5), float(5e-324), float(math.MaxFloat64), float(math.Inf(1)), float(math.Inf(-1)),
		text(""), text("a"), text("\xff\x00\xfe"), text(strings.Repeat("x", 10000)),
		list(), list(api.Value{}), list(nan(canonNaN), whole(1)), list(list(), list(text("a"), list())), times(1000, whole(1)), nested(100, whole(1)),
		{Kind: 5}, {Kind: -1}, {Kind: math.MaxInt}, list(api.Value{Kind: math.MinInt}),
	}
}

// tells gives a function that tells v.
func tells(v api.Value) func() (api.Value, api.Errno) {
	return func() (api.Value, api.Errno) { return v, api.OK }
}

// fails gives a function that has an error, beside a value.
func fails(err api.Errno) func() (api.Value, api.Errno) {
	return func() (api.Value, api.Errno) { return list(whole(1)), err }
}

// panics gives a function that does what panics.
func panics(do func()) func() (api.Value, api.Errno) {
	return func() (api.Value, api.Errno) {
		do()
		return list(whole(1)), api.OK
	}
}

// with gives a function that panics with what is told.
func with(what any) func() { return func() { panic(what) } }

// A word is no string, a number no int, a silent no error.
type (
	word   string
	number int
	silent struct{}
)

func (silent) String() string { return "silent" }

// sour is an error whose Error panics.
type sour struct{ with any }

func (s sour) Error() string { panic(s.with) }

// bitter is an error whose Error panics with itself.
type bitter struct{}

func (b bitter) Error() string { panic(b) }

// named is an error by its pointer alone, which may be nil.
type named struct{ name string }

func (n *named) Error() string { return "named " + n.name }

// quiet is an error that tells of a nil pointer too.
type quiet struct{}

func (*quiet) Error() string { return "quiet" }

// wrapped is an error around another.
type wrapped struct{ error }

func (w wrapped) Unwrap() error { return w.error }

// trouble: what panics, and what Told tells of it.
type trouble struct {
	what string
	do   func()
	want string
}

// told: panics with a value of each kind.
func told() []trouble {
	return []trouble{
		{"a text", with("it broke"), "it broke"},
		{"an empty text", with(""), ""},
		{"the text panic", with("panic"), "panic"},
		{"a text of odd bytes", with("\xff\x00\n"), "\xff\x00\n"},
		{"a long text", with(strings.Repeat("long", 5000)), strings.Repeat("long", 5000)},
		{"an error", with(errors.New("no such thing")), "no such thing"},
		{"an error without words", with(errors.New("")), ""},
		{"a wrapped error", with(wrapped{errors.New("inside")}), "inside"},
		{"errors joined", with(errors.Join(errors.New("a"), errors.New("b"))), "a\nb"},
		{"an Errno", with(api.ErrFull), "err 33"},
		{"the Errno OK", with(api.OK), "err 0"},
		{"an error by its pointer", with(&named{"a"}), "named a"},
		{"an error that's a nil pointer", with((*named)(nil)), "panic"},
		{"a nil pointer that has words", with((*quiet)(nil)), "quiet"},
		{"an error whose Error panics with a text", with(sour{"sour"}), "panic"},
		{"an error whose Error panics with nil", with(sour{nil}), "panic"},
		{"an error whose Error panics with an error", with(sour{errors.New("sour")}), "panic"},
		{"an error whose Error panics with itself", with(bitter{}), "panic"},
		{"a wrapped nil", with(wrapped{}), "panic"},
		{"0", with(0), "0"},
		{"an int", with(42), "42"},
		{"an int below 0", with(-7), "-7"},
		{"the least int", with(math.MinInt), "-9223372036854775808"},
		{"the greatest int", with(math.MaxInt), "9223372036854775807"},
		{"an int64 of 0", with(int64(0)), "0"},
		{"an int64", with(int64(1234567)), "1234567"},
		{"the least int64", with(int64(math.MinInt64)), "-9223372036854775808"},
		{"the greatest int64", with(int64(math.MaxInt64)), "9223372036854775807"},
		{"an int32", with(int32(5)), "panic"},
		{"an int8", with(int8(5)), "panic"},
		{"a rune", with('a'), "panic"},
		{"a uint", with(uint(5)), "panic"},
		{"a uint64", with(uint64(5)), "panic"},
		{"a byte", with(byte(5)), "panic"},
		{"a float", with(1.5), "panic"},
		{"a complex number", with(1i), "panic"},
		{"a bool", with(true), "panic"},
		{"false", with(false), "panic"},
		{"a word", with(word("word")), "panic"},
		{"a number", with(number(5)), "panic"},
		{"a thing with a String", with(silent{}), "panic"},
		{"bytes", with([]byte("bytes")), "panic"},
		{"texts", with([]string{"a"}), "panic"},
		{"a pointer to a text", with(new(string)), "panic"},
		{"a pointer to an int", with(new(int)), "panic"},
		{"a nil pointer", with((*int)(nil)), "panic"},
		{"an array", with([1]int{5}), "panic"},
		{"a map", with(map[string]int{"a": 1}), "panic"},
		{"a channel", with(make(chan int)), "panic"},
		{"a function", with(func() {}), "panic"},
		{"a struct", with(struct{ s string }{"a"}), "panic"},
		{"a value", with(text("a")), "panic"},
		{"an Int", with(whole(5)), "panic"},
		{"a library's text", func() { _ = strings.Repeat("x", -1) }, "strings: negative Repeat count"},
		{"a second panic", func() { defer with("second")(); panic("first") }, "second"},
		{"a panic again", func() { defer func() { panic(recover()) }(); panic("again") }, "again"},
		{"a panic behind one that's recovered", func() { func() { defer func() { recover() }(); panic("gone") }(); panic("stays") }, "stays"},
	}
}

// runtimes: what the language itself panics at, and words that Told's are to
// have in them.
func runtimes() []trouble {
	l, zero, below, m, any1 := []int{1}, 0, -1, map[string]int(nil), any("text")
	var f func()
	var e error
	return []trouble{
		{"an index", func() { l[len(l)]++ }, "index out of range [1] with length 1"},
		{"an index below 0", func() { l[below]++ }, "index out of range [-1]"},
		{"a slice's bounds", func() { l = l[2 : 1+zero] }, "slice bounds out of range"},
		{"a division", func() { l[0] /= zero }, "integer divide by zero"},
		{"a shift", func() { l[0] <<= below }, "negative shift amount"},
		{"a nil pointer", func() { _ = *(*int)(nil) }, "nil pointer dereference"},
		{"a nil map", func() { m["a"] = 1 }, "assignment to entry in nil map"},
		{"a nil function", func() { f() }, "nil pointer dereference"},
		{"a nil interface", func() { _ = e.Error() }, "nil pointer dereference"},
		{"an assertion", func() { _ = any1.(int) }, "interface conversion"},
		{"a length", func() { l = make([]int, below) }, "makeslice: len out of range"},
		{"an array's length", func() { _ = [2]int(l) }, "cannot convert slice with length 1"},
		{"a comparison", func() { _ = any(l) == any(l) }, "comparing uncomparable type []int"},
		{"a key", func() { _ = map[any]int{l: 1} }, "hash of unhashable type []int"},
		{"a channel closed twice", func() { c := make(chan int); close(c); close(c) }, "close of closed channel"},
		{"a channel that's nil", func() { close(chan int(nil)) }, "close of nil channel"},
		{"a send", func() { c := make(chan int, 1); close(c); c <- 1 }, "send on closed channel"},
		{"a panic with nil", with(nil), "panic called with nil argument"},
		{"a panic with a nil error", func() { panic(e) }, "panic called with nil argument"},
	}
}

// wantRun asks for the value to the last bit.
func wantRun(t *testing.T, what string, f func() (api.Value, api.Errno), want api.Value) {
	t.Helper()
	if got, err := guard.Run(f); err != api.OK || !exact(got, want) {
		t.Errorf("%s: Run: %.80v, %v; wanted %.80v", what, got, err, want)
	}
}

// wantError asks for the error, and nothing beside it.
func wantError(t *testing.T, what string, f func() (api.Value, api.Errno), want api.Errno) {
	t.Helper()
	if got, err := guard.Run(f); err != want || !reflect.DeepEqual(got, api.Value{}) {
		t.Errorf("%s: Run: %.80v, %v; wanted %v alone", what, got, err, want)
	}
}

// wantEach asks for the values to the last bit.
func wantEach(t *testing.T, what string, l []func() (api.Value, api.Errno), want ...api.Value) {
	t.Helper()
	if got, err := guard.Each(l...); err != api.OK || !slices.EqualFunc(got, want, exact) {
		t.Errorf("%s: Each of %d: %.80v, %v; wanted %.80v", what, len(l), got, err, want)
	}
}

// wantNone asks for the error, and no values beside it.
func wantNone(t *testing.T, what string, l []func() (api.Value, api.Errno), want api.Errno) {
	t.Helper()
	if got, err := guard.Each(l...); err != want || len(got) != 0 {
		t.Errorf("%s: Each of %d: %.80v, %v; wanted %v alone", what, len(l), got, err, want)
	}
}

// wantTold asks for the words of a panic.
func wantTold(t *testing.T, what string, f func(), want string) {
	t.Helper()
	if got, panicked := guard.Told(f); got != want || !panicked {
		t.Errorf("%s: Told: %.80q, %v; wanted %.80q, true", what, got, panicked, want)
	}
}

// wantQuiet asks for no panic, and no words.
func wantQuiet(t *testing.T, what string, f func()) {
	t.Helper()
	if got, panicked := guard.Told(f); got != "" || panicked {
		t.Errorf("%s: Told: %.80q, %v; wanted no panic", what, got, panicked)
	}
}
