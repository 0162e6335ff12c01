package ledger_test

import (
	"math"
	"reflect"
	"slices"
	"strconv"
	"strings"
	"testing"

	"choir/api"
	"choir/ledger"
	"choir/value"
)

// canonNaN: the bits of the one NaN that is answered.
const canonNaN uint64 = 0x7ff8000000000001

const (
	greatest = math.MaxFloat64
	least    = math.SmallestNonzeroFloat64
)

func whole(i int64) api.Value { return api.Value{Kind: api.Int, I: i} }

func float(f float64) api.Value { return api.Value{Kind: api.Float, F: f} }

func nan(bits uint64) api.Value { return float(math.Float64frombits(bits)) }

func minusNought() float64 { return math.Copysign(0, -1) }

func text(s string) api.Value { return api.Value{Kind: api.Text, S: s} }

func long(n int) api.Value { return text(strings.Repeat("x", n)) }

func list(l ...api.Value) api.Value { return api.Value{Kind: api.List, L: l} }

func times(n int, v api.Value) api.Value { return list(slices.Repeat([]api.Value{v}, n)...) }

func stray(kind int) api.Value { return api.Value{Kind: kind, I: 1, F: 1, S: "a"} }

// has gives an account.
func has(name string, f float64) api.Value { return list(text(name), float(f)) }

// numbered gives a ledger of n accounts, k00 has 0.0, k01 has 1.0 ..
func numbered(n int) api.Value {
	state := list()
	for i := range n {
		state.L = append(state.L, has(key(i), float64(i)))
	}
	return state
}

func key(i int) string { return "k" + strconv.Itoa(i/10) + strconv.Itoa(i%10) }

// nested gives v in n lists.
func nested(n int, v api.Value) api.Value {
	for range n {
		v = list(v)
	}
	return v
}

// filled gives a list of size bytes on the wire, in texts.
func filled(size int) api.Value {
	v := list()
	for left := size - 2; left > 0; left -= min(left, 203) {
		v.L = append(v.L, long(min(left, 203)-3))
	}
	return v
}

// ring gives a list that holds itself.
func ring() api.Value {
	v := list(text("a"), api.Value{})
	v.L[1] = v
	return v
}

// crowd fills the fields that v's kind hasn't.
func crowd(v api.Value) api.Value {
	c := api.Value{Kind: v.Kind, I: 7, F: math.NaN(), S: "crowd", L: []api.Value{text("x"), stray(9)}}
	switch v.Kind {
	case api.Int:
		c.I = v.I
	case api.Float:
		c.F = v.F
	case api.Text:
		c.S = v.S
	case api.List:
		c.L = nil
		for _, item := range v.L {
			c.L = append(c.L, crowd(item))
		}
	}
	return c
}

// exact holds two values against each other field by field, floats by bits.
func exact(a, b api.Value) bool {
	return a.Kind == b.Kind && a.I == b.I && math.Float64bits(a.F) == math.Float64bits(b.F) && a.S == b.S && slices.EqualFunc(a.L, b.L, exact)
}

// inOrder: names in order of their bytes, the shortest and the longest ones
// among them.
func inOrder() []string {
	return []string{
		"\x00", "\x00\x00", "\x01", " ", "0", "10", "9", "A", "B", "Z", "_", "a", "a\x00", "aB", "aa", "ab", "b",
		strings.Repeat("b", api.MaxName-1), strings.Repeat("b", api.MaxName), strings.Repeat("b", api.MaxName-1) + "c",
		"z", "\x7f", "\x80", "ä", "€", "\xfe\xff", "\xff", strings.Repeat("\xff", api.MaxName),
	}
}

// holdings: what an account may have, the edges of floats among them.
func holdings() []float64 {
	return []float64{
		0, least, 2 * least, 0x1p-1022 - least, 0x1p-1022, 0.1, 0.2, 0.5, 1 - 0x1p-53, 1, 1 + 0x1p-52, 2, 3,
		1<<53 - 1, 1 << 53, 1<<53 + 2, 1 << 63, 1e100, 0x1p970, greatest / 2, math.Nextafter(greatest, 0), greatest,
	}
}

// noHoldings: Floats that no account may have.
func noHoldings() []float64 {
	return []float64{
		minusNought(), -least, -0x1p-1022, -1, -greatest, math.Inf(1), math.Inf(-1),
		math.NaN(), math.Float64frombits(canonNaN), math.Float64frombits(0xfff0000000000123), math.Float64frombits(0x7ff0000000000001),
	}
}

// sum: an amount as a call has it, and the Float that it is.
type sum struct {
	v api.Value
	f float64
}

// amounts: numbers that are finite and above 0.
func amounts() []sum {
	all := []sum{
		{whole(1), 1}, {whole(2), 2}, {whole(3), 3}, {whole(1<<53 - 1), 1<<53 - 1}, {whole(1 << 53), 1 << 53},
		{whole(1<<53 + 1), 1 << 53}, {whole(1<<53 + 2), 1<<53 + 2}, {whole(1<<53 + 3), 1<<53 + 4},
		{whole(math.MaxInt64 - 512), 1<<63 - 1024}, {whole(math.MaxInt64 - 511), 1 << 63}, {whole(math.MaxInt64), 1 << 63},
	}
	for _, f := range holdings() {
		if f > 0 {
			all = append(all, sum{float(f), f})
		}
	}
	return all
}

// noAmounts: numbers that aren't finite, or not above 0.
func noAmounts() []api.Value {
	all := []api.Value{whole(0), whole(-1), whole(-2), whole(math.MinInt64), float(0)}
	for _, f := range noHoldings() {
		all = append(all, float(f))
	}
	return all
}

// ledgers: states that are Right, each in its clean form.
func ledgers() []api.Value {
	all, rich := list(), list()
	for i, name := range inOrder() {
		all.L = append(all.L, has(name, float64(i)/8))
		rich.L = append(rich.L, has(name, greatest))
	}
	states := []api.Value{list(), all, rich, numbered(1), numbered(2), numbered(api.MaxKeys - 1), numbered(api.MaxKeys)}
	for _, f := range holdings() {
		states = append(states, list(has("k", f)), list(has("j", 0.1), has("k", f), has("l", greatest)))
	}
	return states
}

// wantDo asks for the state and the answer to the last bit, of what is handed
// in as it is, and of what holds more than its kinds have.
func wantDo(t *testing.T, was api.Value, method string, l []api.Value, then, answer api.Value) {
	t.Helper()
	crowded := crowd(list(l...)).L
	for i, given := range [][]api.Value{l, crowded, l, crowded} {
		state := was
		if i > 1 {
			state = crowd(was)
		}
		gotThen, gotAnswer, err := ledger.Do(state, method, given)
		if err != api.OK || !exact(gotThen, then) || !exact(gotAnswer, answer) {
			t.Errorf("Do(%.80s, %q, %.80s): %.80s, %.40s, %v; wanted %.80s, %.40s",
				value.Text(was), method, value.Text(list(l...)), value.Text(gotThen), value.Text(gotAnswer), err, value.Text(then), value.Text(answer))
		}
		if err == api.OK && !ledger.Right(gotThen) {
			t.Errorf("Do(%.80s, %q, ..): %.80s isn't Right", value.Text(was), method, value.Text(gotThen))
		}
	}
}

// wantError asks for the error, and nothing beside it.
func wantError(t *testing.T, what string, was api.Value, method string, l []api.Value, want api.Errno) {
	t.Helper()
	then, answer, err := ledger.Do(was, method, l)
	if err != want || !reflect.DeepEqual(then, api.Value{}) || !reflect.DeepEqual(answer, api.Value{}) {
		t.Errorf("%s: Do(%.80q, %.40q, %.80q): %.40q, %.40q, %v; wanted %v alone",
			what, value.Text(was), method, value.Text(list(l...)), value.Text(then), value.Text(answer), err, want)
	}
}

// with gives the ledger in which the name has f, found by looking at each
// account.
func with(was api.Value, name string, f float64) api.Value {
	then, at := without(was, name), 0
	for at < len(then.L) && then.L[at].L[0].S < name {
		at++
	}
	then.L = slices.Insert(then.L, at, has(name, f))
	return then
}

// without gives the ledger without the name.
func without(was api.Value, name string) api.Value {
	then := list()
	for _, v := range was.L {
		if v.L[0].S != name {
			then.L = append(then.L, v)
		}
	}
	return then
}

// had gives what the name has, and whether it is there.
func had(was api.Value, name string) (float64, bool) {
	for _, v := range was.L {
		if v.L[0].S == name {
			return v.L[1].F, true
		}
	}
	return 0, false
}
