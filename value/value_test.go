package value_test

import (
	"math"
	"reflect"
	"strings"
	"testing"

	"choir/api"
	"choir/value"
)

const canonNaN = 0x7ff8000000000001

func whole(i int64) api.Value { return api.Value{Kind: api.Int, I: i} }

func float(f float64) api.Value { return api.Value{Kind: api.Float, F: f} }

func nan(bits uint64) api.Value { return float(math.Float64frombits(bits)) }

func text(s string) api.Value { return api.Value{Kind: api.Text, S: s} }

func long(n int) api.Value { return text(strings.Repeat("x", n)) }

func list(l ...api.Value) api.Value { return api.Value{Kind: api.List, L: l} }

func stray(kind int) api.Value {
	return api.Value{Kind: kind, I: 7, F: 7, S: "stray", L: []api.Value{whole(7)}}
}

// times gives a list of n times v.
func times(n int, v api.Value) api.Value {
	l := make([]api.Value, n)
	for i := range l {
		l[i] = v
	}
	return list(l...)
}

// nested gives v in n lists.
func nested(n int, v api.Value) api.Value {
	for range n {
		v = list(v)
	}
	return v
}

func negativeZero() float64 { return math.Copysign(0, -1) }

// crowded gives every kind with the fields of all others filled.
func crowded(kind int) api.Value {
	return api.Value{Kind: kind, I: 1 << 40, F: math.Inf(1), S: strings.Repeat("y", 2*api.MaxText), L: []api.Value{stray(77), nested(20, whole(1))}}
}

// P2.1: Size.
func TestSize(t *testing.T) {
	for _, c := range []struct {
		what string
		v    api.Value
		want int
	}{
		{"nil", api.Value{}, 1},
		{"Int", whole(0), 9},
		{"the greatest Int", whole(math.MaxInt64), 9},
		{"Float", float(0.5), 9},
		{"NaN", nan(canonNaN), 9},
		{"an empty text", text(""), 3},
		{"a text", text("abc"), 6},
		{"a text by its bytes", text("\u00e4\u20ac"), 8},
		{"a text that is too long", long(100000), 100003},
		{"an empty list", list(), 2},
		{"an empty list that isn't nil", api.Value{Kind: api.List, L: []api.Value{}}, 2},
		{"a list", list(api.Value{}, whole(1), text("a")), 2 + 1 + 9 + 4},
		{"lists in lists", list(list(), list(list(float(1)))), 2 + 2 + 2 + 2 + 9},
		{"a list that is too long", times(1000, whole(1)), 9002},
		{"64 lists in one another", nested(64, whole(1)), 64*2 + 9},
		{"of no kind", stray(5), 1},
		{"of no kind, below", stray(-1), 1},
		{"in a list of no kind", list(stray(9), whole(1)), 2 + 1 + 9},
		{"a Nil with other fields", crowded(api.Nil), 1},
		{"an Int with other fields", crowded(api.Int), 9},
	} {
		if got := value.Size(c.v); got != c.want {
			t.Errorf("Size of %s: %d, wanted %d", c.what, got, c.want)
		}
	}
}

// filled gives a list of that Size, in texts.
func filled(size int) api.Value {
	var l []api.Value
	size -= 2
	for size > 0 {
		n := min(size, 203)
		l = append(l, long(n-3))
		size -= n
	}
	return list(l...)
}

// P2.1: Check at each limit, and one past it.
func TestCheckLimits(t *testing.T) {
	for _, c := range []struct {
		what string
		v    api.Value
		want api.Errno
	}{
		{"nil", api.Value{}, api.OK},
		{"Int", whole(math.MinInt64), api.OK},
		{"Float", float(math.Inf(-1)), api.OK},
		{"NaN of any bits", nan(0xfff0000000000123), api.OK},
		{"an empty text", text(""), api.OK},
		{"an empty list", list(), api.OK},
		{"bytes that are no letters", text("\x00\xff\xfe"), api.OK},
		{"the longest text", long(api.MaxText), api.OK},
		{"a longer text", long(api.MaxText + 1), api.ErrSize},
		{"the longest text by bytes", text(strings.Repeat("\u00e4", api.MaxText/2)), api.OK},
		{"a longer text by bytes", text(strings.Repeat("\u00e4", api.MaxText/2+1)), api.ErrSize},
		{"a longer text in a list", list(whole(1), long(api.MaxText+1)), api.ErrSize},
		{"the longest list", times(api.MaxItems, whole(1)), api.OK},
		{"a longer list", times(api.MaxItems+1, whole(1)), api.ErrSize},
		{"a longer list in a list", list(list(), times(api.MaxItems+1, api.Value{})), api.ErrSize},
		{"the deepest lists", nested(api.MaxDepth, whole(1)), api.OK},
		{"the deepest lists, the last one empty", nested(api.MaxDepth-1, list()), api.OK},
		{"deeper lists", nested(api.MaxDepth+1, whole(1)), api.ErrSize},
		{"deeper lists, the last one empty", nested(api.MaxDepth, list()), api.ErrSize},
		{"deeper lists beside shallow ones", list(list(), whole(1), nested(api.MaxDepth, whole(1)), list()), api.ErrSize},
		{"64 lists in one another", nested(64, whole(1)), api.ErrSize},
		{"the greatest size", filled(api.MaxSize), api.OK},
		{"a greater size", filled(api.MaxSize + 1), api.ErrSize},
		{"a Nil with other fields", crowded(api.Nil), api.OK},
		{"an Int with other fields", crowded(api.Int), api.OK},
		{"a Float with other fields", crowded(api.Float), api.OK},
		{"a list whose text is too long", api.Value{Kind: api.List, S: strings.Repeat("y", 1000)}, api.OK},
		{"a text whose list is too long", api.Value{Kind: api.Text, L: make([]api.Value, 1000)}, api.OK},
	} {
		if got := value.Check(c.v); got != c.want {
			t.Errorf("Check of %s: %v, wanted %v", c.what, got, c.want)
		}
	}
	if size := value.Size(filled(api.MaxSize)); size != api.MaxSize {
		t.Errorf("the greatest size is %d", size)
	}
}

// P2.1: ErrBadArgs of what is of no kind, wherever it is, ahead of ErrSize.
func TestCheckKinds(t *testing.T) {
	for _, kind := range []int{-1, 5, 6, 9, 256, 1 << 32, math.MaxInt, math.MinInt} {
		bad := stray(kind)
		for i, v := range []api.Value{
			bad, list(bad), list(whole(1), bad), list(bad, whole(1)), nested(7, bad), nested(64, bad),
			list(bad, long(1000)), list(long(1000), bad), list(times(65, whole(1)), bad), list(nested(9, whole(1)), bad),
			list(bad, nested(9, whole(1))), list(filled(4096), bad), times(65, bad), list(list(list(), list(bad)), list()),
		} {
			if got := value.Check(v); got != api.ErrBadArgs {
				t.Errorf("Check of kind %d, %d: %v, wanted ErrBadArgs", kind, i, got)
			}
		}
	}
}

// alike holds two values against each other field by field, floats by bits.
func alike(a, b api.Value) bool {
	if a.Kind != b.Kind || a.I != b.I || math.Float64bits(a.F) != math.Float64bits(b.F) || a.S != b.S || len(a.L) != len(b.L) {
		return false
	}
	for i := range a.L {
		if !alike(a.L[i], b.L[i]) {
			return false
		}
	}
	return true
}

// cleaners: Clean and Clone answer the same.
func cleaners() map[string]func(api.Value) api.Value {
	return map[string]func(api.Value) api.Value{"Clean": value.Clean, "Clone": value.Clone}
}

// P2.1: Clean leaves what the kinds have, and one NaN.
func TestClean(t *testing.T) {
	for name, do := range cleaners() {
		for _, c := range []struct {
			what    string
			v, want api.Value
		}{
			{"nil", api.Value{}, api.Value{}},
			{"a crowded Nil", crowded(api.Nil), api.Value{}},
			{"a crowded Int", crowded(api.Int), whole(1 << 40)},
			{"a crowded Float", crowded(api.Float), float(math.Inf(1))},
			{"a crowded text", crowded(api.Text), text(strings.Repeat("y", 2*api.MaxText))},
			{"a crowded list", api.Value{Kind: api.List, I: 1, F: 2, S: "3", L: []api.Value{crowded(api.Int)}}, list(whole(1 << 40))},
			{"of no kind", stray(5), api.Value{}},
			{"of no kind, below", stray(-1), api.Value{}},
			{"in a list of no kind", list(whole(1), stray(5), list(stray(-9))), list(whole(1), api.Value{}, list(api.Value{}))},
			{"a NaN", nan(0xfff0000000000123), nan(canonNaN)},
			{"a NaN in a list", list(list(nan(0x7ff0000000000001))), list(list(nan(canonNaN)))},
			{"the noughts", list(float(0), float(negativeZero())), list(float(0), float(negativeZero()))},
			{"a least float", float(-math.SmallestNonzeroFloat64), float(-math.SmallestNonzeroFloat64)},
			{"an empty list", list(), list()},
			{"what is too great", list(long(1000), times(100, whole(3)), nested(63, text("in"))), list(long(1000), times(100, whole(3)), nested(63, text("in")))},
		} {
			if got := do(c.v); !alike(got, c.want) {
				t.Errorf("%s of %s: %+v, wanted %+v", name, c.what, got, c.want)
			}
		}
	}
}

// P2.1 and the rules that hold everywhere: the answer is new memory, and what
// was handed in stays, the spare room behind it too.
func TestCleanIsNewMemory(t *testing.T) {
	for name, do := range cleaners() {
		inner := []api.Value{nan(0xfff0000000000123), stray(9), whole(5)}
		room := []api.Value{list(inner[:2]...), list(inner[:2]...), crowded(api.Int)}
		v := list(room[:2]...)
		before := stray(9)
		got := do(v)
		if math.Float64bits(inner[0].F) != 0xfff0000000000123 || !reflect.DeepEqual(inner[1], before) || inner[2].I != 5 || room[2].I != 1<<40 {
			t.Errorf("%s changed what was handed in", name)
		}
		got.L[0].L[0] = text("changed")
		if got.L[1].L[0].Kind != api.Float || inner[0].Kind != api.Float {
			t.Errorf("%s: lists of the answer share memory", name)
		}
		got.L[1] = text("changed")
		_ = append(got.L, text("behind"))
		_ = append(got.L[0].L, text("behind"))
		if room[1].Kind != api.List || room[2].Kind != api.Int || inner[2].Kind != api.Int {
			t.Errorf("%s: the answer shares memory with what was handed in", name)
		}
	}
}

// ladder gives values that each stand behind the one ahead of them.
func ladder() []api.Value {
	return []api.Value{
		{},
		whole(math.MinInt64), whole(-1), whole(0), whole(1), whole(1 << 53), whole(1<<53 + 1), whole(math.MaxInt64),
		nan(canonNaN), float(math.Inf(-1)), float(-math.MaxFloat64), float(-1.5), float(-math.SmallestNonzeroFloat64), float(negativeZero()),
		float(0), float(math.SmallestNonzeroFloat64), float(1), float(1 + 1.0/(1<<52)), float(9007199254740992), float(math.MaxFloat64), float(math.Inf(1)),
		text(""), text("\x00"), text("A"), text("B"), text("a"), text("aa"), text("ab"), text("b"), text("\u00e4"), text("\xff"), text("\xff\x00"),
		list(), list(api.Value{}), list(api.Value{}, api.Value{}), list(whole(1)), list(whole(1), whole(0)), list(whole(1), whole(0), whole(0)), list(whole(1), text("z")),
		list(whole(2)), list(nan(canonNaN)), list(float(negativeZero())), list(float(negativeZero()), text("z")), list(float(0)), list(float(0), whole(-9)),
		list(text("")), list(text("z"), list()), list(list()), list(list(), whole(0)), list(list(whole(-5))), list(list(list())),
	}
}

// rank gives the place of the i-th of the ladder among values that are Equal:
// only the noughts are Equal to another one.
func rank(i int) int {
	v := ladder()[i]
	if v.Kind == api.Float && v.F == 0 && !math.Signbit(v.F) {
		return i - 1
	}
	return i
}

// P2.2: Order, and Equal, of every two of the ladder.
func TestLadder(t *testing.T) {
	for i, a := range ladder() {
		for j, b := range ladder() {
			want := 0
			if i < j {
				want = -1
			} else if i > j {
				want = 1
			}
			if got := value.Order(a, b); got != want {
				t.Errorf("Order(%s, %s): %d, wanted %d", value.Text(a), value.Text(b), got, want)
			}
			if a.Kind == api.List && b.Kind == api.List {
				continue // lists with noughts have a test of their own
			}
			if got := value.Equal(a, b); got != (rank(i) == rank(j)) {
				t.Errorf("Equal(%s, %s): %v", value.Text(a), value.Text(b), got)
			}
		}
	}
}

// P2.2: Equal has edges of its own.
func TestEqual(t *testing.T) {
	zero := negativeZero()
	for _, c := range []struct {
		what string
		a, b api.Value
		want bool
	}{
		{"Int and Float", whole(1), float(1), false},
		{"nil and 0", api.Value{}, whole(0), false},
		{"nil and an empty list", api.Value{}, list(), false},
		{"nil and an empty text", api.Value{}, text(""), false},
		{"the noughts", float(0), float(zero), true},
		{"NaNs of other bits", nan(0x7ff8000000000001), nan(0xfff0000000000abc), true},
		{"NaN and a number", nan(canonNaN), float(1), false},
		{"NaN and infinity", nan(canonNaN), float(math.Inf(1)), false},
		{"infinities", float(math.Inf(1)), float(math.Inf(-1)), false},
		{"Ints that are one Float", whole(1 << 53), whole(1<<53 + 1), false},
		{"texts", text("a"), text("A"), false},
		{"lists", list(whole(1), text("a")), list(whole(1), text("a")), true},
		{"lists with noughts and NaNs", list(float(0), list(nan(1<<63|0x7ff1<<48))), list(float(zero), list(nan(canonNaN))), true},
		{"lists of other items", list(whole(1), text("a")), list(whole(1), text("b")), false},
		{"lists of other lengths", list(whole(1)), list(whole(1), whole(1)), false},
		{"an empty list and one", list(), list(api.Value{}), false},
		{"nil list and empty list", list(), api.Value{Kind: api.List, L: []api.Value{}}, true},
		{"other fields don't count: Nil", crowded(api.Nil), api.Value{}, true},
		{"other fields don't count: Int", crowded(api.Int), whole(1 << 40), true},
		{"other fields don't count: Float", crowded(api.Float), float(math.Inf(1)), true},
		{"other fields don't count: List", api.Value{Kind: api.List, I: 4, S: "s"}, list(), true},
		{"of no kind and nil", stray(5), api.Value{}, true},
		{"of no kind, twice", stray(5), stray(-7), true},
		{"of no kind in lists", list(stray(5)), list(api.Value{}), true},
		{"of no kind and Int", stray(5), whole(7), false},
		{"64 deep", nested(64, whole(1)), nested(64, whole(1)), true},
		{"64 deep, another one", nested(64, whole(1)), nested(64, whole(2)), false},
	} {
		if got := value.Equal(c.a, c.b); got != c.want {
			t.Errorf("Equal of %s: %v", c.what, got)
		}
		if got := value.Equal(c.b, c.a); got != c.want {
			t.Errorf("Equal of %s, turned: %v", c.what, got)
		}
	}
}

// P2.2: Order takes what is of no kind as Nil, and NaNs as one.
func TestOrderEdges(t *testing.T) {
	for _, c := range []struct {
		what string
		a, b api.Value
		want int
	}{
		{"of no kind and nil", stray(5), api.Value{}, 0},
		{"of no kind and of no kind", stray(-5), stray(99), 0},
		{"of no kind and Int", stray(99), whole(math.MinInt64), -1},
		{"of no kind in lists", list(stray(5), whole(1)), list(api.Value{}, whole(2)), -1},
		{"NaNs", nan(0x7ff0000000000001), nan(0xffffffffffffffff), 0},
		{"NaN with a sign and the least", nan(0xffffffffffffffff), float(math.Inf(-1)), -1},
		{"other fields: Int", crowded(api.Int), whole(1 << 40), 0},
		{"other fields: Nil", crowded(api.Nil), api.Value{}, 0},
		{"noughts deep in lists", list(list(float(0))), list(list(float(negativeZero()))), 1},
		{"an item ahead of the length", list(whole(2)), list(whole(1), whole(1), whole(1)), 1},
		{"kinds, not numbers", float(-1), whole(1), 1},
		{"64 deep", nested(64, whole(1)), nested(64, whole(2)), -1},
	} {
		if got := value.Order(c.a, c.b); got != c.want {
			t.Errorf("Order of %s: %d, wanted %d", c.what, got, c.want)
		}
		if got := value.Order(c.b, c.a); got != -c.want {
			t.Errorf("Order of %s, turned: %d, wanted %d", c.what, got, -c.want)
		}
	}
}

// P2.2: Text.
func TestText(t *testing.T) {
	for _, c := range []struct {
		v    api.Value
		want string
	}{
		{api.Value{}, "nil"}, {crowded(api.Nil), "nil"}, {stray(5), "nil"}, {stray(-1), "nil"},
		{whole(0), "0"}, {whole(-12), "-12"}, {whole(math.MinInt64), "-9223372036854775808"}, {whole(math.MaxInt64), "9223372036854775807"},
		{float(0), "0.0"}, {float(negativeZero()), "-0.0"}, {float(1), "1.0"}, {float(-3), "-3.0"}, {float(0.5), "0.5"}, {float(0.1), "0.1"},
		{float(100000), "100000.0"}, {float(1e20), "1e+20"}, {float(123456789), "1.23456789e+08"}, {float(1e21), "1e+21"}, {float(1e-7), "1e-07"},
		{float(math.MaxFloat64), "1.7976931348623157e+308"}, {float(math.SmallestNonzeroFloat64), "5e-324"},
		{float(math.Inf(1)), "+Inf"}, {float(math.Inf(-1)), "-Inf"}, {nan(canonNaN), "NaN"}, {nan(0xfff0000000000001), "NaN"},
		{text(""), `""`}, {text("a"), `"a"`}, {text("a\"b\\\n"), `"a\"b\\\n"`}, {text("\x00\xff"), `"\x00\xff"`}, {text("\u00e4\u2028"), "\"\u00e4\\u2028\""},
		{list(), "[]"}, {list(whole(1), float(0.5), text("a")), `[1, 0.5, "a"]`}, {list(list(), list(api.Value{}, stray(9)), float(2)), "[[], [nil, nil], 2.0]"},
		{nested(64, whole(1)), strings.Repeat("[", 64) + "1" + strings.Repeat("]", 64)},
		{times(65, long(300)), "[" + strings.Repeat(", \""+strings.Repeat("x", 300)+"\"", 65)[2:] + "]"},
	} {
		if got := value.Text(c.v); got != c.want {
			t.Errorf("Text: %s, wanted %s", got, c.want)
		}
	}
}

// all gives the ladder, and values that differ from it where Order doesn't look.
func all() []api.Value {
	l := ladder()
	l = append(l, stray(5), stray(-3), nan(0xfff8000000000000), crowded(api.Int), crowded(api.Float), list(stray(5)), list(nan(0x7ff0000000000009)))
	for _, v := range ladder() {
		l = append(l, list(v, v), list(text("m"), list(v)))
	}
	return l
}

// P2.3: Order is one of all values: turned it is turned, it hands on, and what
// is 0 by it is Equal. Cleaning changes none of it.
func TestOrderIsOne(t *testing.T) {
	l := all()
	for _, a := range l {
		if value.Order(a, a) != 0 || !value.Equal(a, a) || value.Order(a, value.Clean(a)) != 0 || value.Order(a, value.Clone(a)) != 0 {
			t.Errorf("%s isn't itself", value.Text(a))
		}
		for _, b := range l {
			o := value.Order(a, b)
			if o != -value.Order(b, a) || o < -1 || o > 1 {
				t.Errorf("Order(%s, %s), turned, isn't turned", value.Text(a), value.Text(b))
			}
			if o == 0 && !value.Equal(a, b) {
				t.Errorf("%s and %s are 0 by Order, and not Equal", value.Text(a), value.Text(b))
			}
			for _, c := range l {
				if o <= 0 && value.Order(b, c) <= 0 && value.Order(a, c) > 0 {
					t.Fatalf("Order of %s, %s, %s goes in a circle", value.Text(a), value.Text(b), value.Text(c))
				}
			}
		}
	}
}
