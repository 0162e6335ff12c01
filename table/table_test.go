package table_test

import (
	"math"
	"reflect"
	"slices"
	"strconv"
	"strings"
	"testing"

	"choir/api"
	"choir/args"
	"choir/table"
	"choir/value"
)

// canonNaN: the bits of the one NaN that is answered.
const canonNaN uint64 = 0x7ff8000000000001

func whole(i int64) api.Value { return api.Value{Kind: api.Int, I: i} }

func float(f float64) api.Value { return api.Value{Kind: api.Float, F: f} }

func nan(bits uint64) api.Value { return float(math.Float64frombits(bits)) }

func text(s string) api.Value { return api.Value{Kind: api.Text, S: s} }

func long(n int) api.Value { return text(strings.Repeat("x", n)) }

func list(l ...api.Value) api.Value { return api.Value{Kind: api.List, L: l} }

func times(n int, v api.Value) api.Value { return list(slices.Repeat([]api.Value{v}, n)...) }

func stray(kind int) api.Value { return api.Value{Kind: kind, I: 1, F: 1, S: "a"} }

// entry gives a name with what it has.
func entry(name string, v api.Value) api.Value { return list(text(name), v) }

// numbered gives a table of n names, k00 = 0, k01 = 1 ..
func numbered(n int) api.Value {
	state := list()
	for i := range n {
		state.L = append(state.L, entry(key(i), whole(int64(i))))
	}
	return state
}

func key(i int) string { return "k" + strconv.Itoa(i/10) + strconv.Itoa(i%10) }

// nested gives v in n lists.
func nested(n int, v api.Value) api.Value {
	for range n {
		v = list(v)
	}
	return v
}

// filled gives a list of size bytes on the wire, in texts.
func filled(size int) api.Value {
	v := list()
	for left := size - 2; left > 0; left -= min(left, 203) {
		v.L = append(v.L, long(min(left, 203)-3))
	}
	return v
}

// ring gives a list that holds itself.
func ring() api.Value {
	v := list(text("a"), api.Value{})
	v.L[1] = v
	return v
}

// crowd fills the fields that v's kind hasn't.
func crowd(v api.Value) api.Value {
	c := api.Value{Kind: v.Kind, I: 7, F: math.NaN(), S: "crowd", L: []api.Value{text("x"), stray(9)}}
	switch v.Kind {
	case api.Int:
		c.I = v.I
	case api.Float:
		c.F = v.F
	case api.Text:
		c.S = v.S
	case api.List:
		c.L = nil
		for _, item := range v.L {
			c.L = append(c.L, crowd(item))
		}
	}
	return c
}

// exact holds two values against each other field by field, floats by bits.
func exact(a, b api.Value) bool {
	return a.Kind == b.Kind && a.I == b.I && math.Float64bits(a.F) == math.Float64bits(b.F) && a.S == b.S && slices.EqualFunc(a.L, b.L, exact)
}

// inOrder: names in order of their bytes, the shortest and the longest ones
// among them.
func inOrder() []string {
	return []string{
		"\x00", "\x00\x00", "\x01", " ", "0", "10", "9", "A", "B", "Z", "_", "a", "a\x00", "aB", "aa", "ab", "b",
		strings.Repeat("b", api.MaxName-1), strings.Repeat("b", api.MaxName), strings.Repeat("b", api.MaxName-1) + "c",
		"z", "\x7f", "\x80", "ä", "€", "\xfe\xff", "\xff", strings.Repeat("\xff", api.MaxName),
	}
}

// samples: values that a name may have, each in its clean form.
func samples() []api.Value {
	return []api.Value{
		{}, whole(0), whole(1), whole(math.MinInt64), whole(math.MaxInt64),
		nan(canonNaN), float(0), float(math.Copysign(0, -1)), float(0.5), float(math.Inf(1)), float(math.Inf(-1)),
		text(""), text("a"), text("\xff\xfe"), long(api.MaxText - 1), long(api.MaxText),
		list(), list(api.Value{}), list(nan(canonNaN)), entry("a", whole(1)), times(api.MaxItems-1, api.Value{}), times(api.MaxItems, api.Value{}),
		nested(api.MaxDepth-3, list()), nested(api.MaxDepth-2, whole(1)), filled(3000),
	}
}

// tables: states that are Right, each in its clean form.
func tables() []api.Value {
	all := list()
	for _, name := range inOrder() {
		all.L = append(all.L, entry(name, text(name)))
	}
	states := []api.Value{
		list(), all, numbered(1), numbered(2), numbered(api.MaxKeys - 1), numbered(api.MaxKeys),
		list(entry("k", filled(api.MaxSize-8))), list(entry("k", filled(api.MaxSize-9))),
	}
	for _, v := range samples() {
		states = append(states, list(entry("k", v)), list(entry("j", whole(1)), entry("k", v), entry("l", api.Value{})))
	}
	return states
}

// wrongStates: what isn't Right.
func wrongStates() map[string]api.Value {
	k := entry("k", whole(1))
	return map[string]api.Value{
		"nil":                       {},
		"an Int":                    whole(1),
		"a Float":                   float(1),
		"a text":                    text("[]"),
		"of no kind":                stray(5),
		"of no kind, with entries":  {Kind: 5, L: []api.Value{k}},
		"of no kind, below":         {Kind: -1, L: []api.Value{k}},
		"nil with entries":          {L: []api.Value{k}},
		"a text with entries":       {Kind: api.Text, L: []api.Value{k}},
		"an entry alone":            k,
		"in one more list":          list(list(k)),
		"MaxKeys + 1":               numbered(api.MaxKeys + 1),
		"MaxItems":                  numbered(api.MaxItems),
		"MaxItems + 1":              numbered(api.MaxItems + 1),
		"a nil entry":               list(api.Value{}),
		"a nil entry behind":        list(k, api.Value{}),
		"an Int's entry":            list(whole(1)),
		"a text's entry":            list(text("k")),
		"a text's entry with a key": list(api.Value{Kind: api.Text, S: "k", L: k.L}),
		"an entry of no kind":       list(api.Value{Kind: 9, L: k.L}),
		"an empty entry":            list(list()),
		"a name alone":              list(list(text("k"))),
		"a name with two values":    list(list(text("k"), whole(1), whole(2))),
		"a name with one nil more":  list(list(text("k"), whole(1), api.Value{})),
		"the other way about":       list(list(whole(1), text("k"))),
		"a nil name":                list(list(api.Value{}, whole(1))),
		"an Int's name":             list(list(whole(1), whole(1))),
		"a list's name":             list(list(list(text("k")), whole(1))),
		"an Int's name, crowded":    list(list(api.Value{Kind: api.Int, S: "k"}, whole(1))),
		"a name of no kind":         list(list(api.Value{Kind: 9, S: "k"}, whole(1))),
		"an empty name":             list(entry("", whole(1))),
		"a name of MaxName + 1":     list(entry(strings.Repeat("k", api.MaxName+1), whole(1))),
		"a wrong name behind":       list(k, entry(strings.Repeat("l", api.MaxName+1), whole(1))),
		"one name twice":            list(k, k),
		"one name twice, others":    list(entry("k", whole(1)), entry("k", whole(2))),
		"one name twice, apart":     list(k, entry("l", whole(1)), k),
		"one name twice at the end": list(entry("a", whole(1)), k, k),
		"out of order":              list(entry("l", whole(1)), k),
		"out of order at the end":   list(entry("a", whole(1)), entry("c", whole(1)), entry("b", whole(1))),
		"order of letters":          list(entry("a", whole(1)), entry("B", whole(2))),
		"order of numbers":          list(entry("9", whole(1)), entry("10", whole(2))),
		"a longer name ahead":       list(entry("kk", whole(1)), k),
		"a byte above 127 ahead":    list(entry("\xff", whole(1)), entry("\x01", whole(1))),
		"a value of no kind":        list(entry("k", stray(9))),
		"no kind in a value":        list(entry("k", list(stray(-1)))),
		"a value that is too deep":  list(entry("k", nested(api.MaxDepth-1, whole(1)))),
		"a text of MaxText + 1":     list(entry("k", long(api.MaxText+1))),
		"a list of MaxItems + 1":    list(entry("k", times(api.MaxItems+1, api.Value{}))),
		"a byte too many":           list(entry("k", filled(api.MaxSize-7))),
		"a list that holds itself":  ring(),
		"a value that holds itself": list(entry("k", ring())),
	}
}

// wantDo asks for the state and the answer to the last bit, of what is handed
// in as it is, and of what holds more than its kinds have.
func wantDo(t *testing.T, was api.Value, method string, l []api.Value, then, answer api.Value) {
	t.Helper()
	crowded := crowd(list(l...)).L
	for i, given := range [][]api.Value{l, crowded, l, crowded} {
		state := was
		if i > 1 {
			state = crowd(was)
		}
		gotThen, gotAnswer, err := table.Do(state, method, given)
		if err != api.OK || !exact(gotThen, then) || !exact(gotAnswer, answer) {
			t.Errorf("Do(%.80s, %q, %.80s): %.80s, %.40s, %v; wanted %.80s, %.40s",
				value.Text(was), method, value.Text(list(l...)), value.Text(gotThen), value.Text(gotAnswer), err, value.Text(then), value.Text(answer))
		}
	}
}

// wantError asks for the error, and nothing beside it.
func wantError(t *testing.T, what string, was api.Value, method string, l []api.Value, want api.Errno) {
	t.Helper()
	then, answer, err := table.Do(was, method, l)
	if err != want || !reflect.DeepEqual(then, api.Value{}) || !reflect.DeepEqual(answer, api.Value{}) {
		t.Errorf("%s: Do(.., %.40q, %d args): %.40q, %.40q, %v; wanted %v alone", what, method, len(l), value.Text(then), value.Text(answer), err, want)
	}
}

// with gives the table with v at the name, found by looking at each entry; and
// what the name had.
func with(was api.Value, name string, v api.Value) (then, old api.Value) {
	then, old = without(was, name)
	at := 0
	for at < len(then.L) && then.L[at].L[0].S < name {
		at++
	}
	then.L = slices.Insert(then.L, at, entry(name, v))
	return then, old
}

// without gives the table without the name, and what that had.
func without(was api.Value, name string) (then, old api.Value) {
	then = list()
	for _, e := range was.L {
		if e.L[0].S == name {
			old = e.L[1]
		} else {
			then.L = append(then.L, e)
		}
	}
	return then, old
}

// keysOf gives a List of the table's names.
func keysOf(state api.Value) api.Value {
	keys := list()
	for _, e := range state.L {
		keys.L = append(keys.L, e.L[0])
	}
	return keys
}

// P10.1: Right is a List of at most MaxKeys names with values, in order.
func TestRight(t *testing.T) {
	for _, state := range tables() {
		if !table.Right(state) || !table.Right(crowd(state)) {
			t.Errorf("%.80s isn't Right", value.Text(state))
		}
	}
	for what, v := range map[string]api.Value{
		"an empty list that isn't nil": {Kind: api.List, L: []api.Value{}},
		"another NaN":                  list(entry("k", nan(0xfff0000000000123))),
	} {
		if !table.Right(v) {
			t.Errorf("%s isn't Right", what)
		}
	}
	if begin, _ := args.Start("table"); !table.Right(begin) {
		t.Error("what a table begins with isn't Right")
	}
	for what, state := range wrongStates() {
		if table.Right(state) {
			t.Errorf("%s is Right", what)
		}
	}
}

// P10.1: a state is Right, if its names are in order of their bytes, each once.
func TestRightOrder(t *testing.T) {
	names := inOrder()
	for i, a := range names {
		for j, b := range names {
			if got := table.Right(list(entry(a, whole(1)), entry(b, whole(1)))); got != (i < j) {
				t.Errorf("%q, %q: %v", a, b, got)
			}
		}
	}
}

// P10.1: names are args' names.
func TestRightNames(t *testing.T) {
	for n := range 2 * api.MaxName {
		name := long(n)
		if got, want := table.Right(list(list(name, whole(1)))), args.Check("table", "get", []api.Value{name}) == api.OK; got != want || want != (n >= 1 && n <= api.MaxName) {
			t.Errorf("a name of %d bytes: %v", n, got)
		}
	}
}

// P10.1: put(k, v) holds k with v, in its place, and answers what k had.
func TestPut(t *testing.T) {
	begin, _ := args.Start("table")
	wantDo(t, begin, "put", []api.Value{text("a"), whole(1)}, list(entry("a", whole(1))), api.Value{})
	for _, v := range samples() {
		for _, old := range samples() {
			was := list(entry("k", old))
			if ahead := list(entry("j", v), entry("k", old)); value.Check(ahead) == api.OK {
				wantDo(t, was, "put", []api.Value{text("j"), v}, ahead, api.Value{})
				wantDo(t, was, "put", []api.Value{text("l"), v}, list(entry("k", old), entry("l", v)), api.Value{})
			}
			wantDo(t, was, "put", []api.Value{text("k"), v}, list(entry("k", v)), old)
		}
	}
}

// P10.1: put finds each place, among few names and many.
func TestPutPlaces(t *testing.T) {
	names := inOrder()
	for i := range names {
		was := list()
		for j, name := range names {
			if j != i {
				was.L = append(was.L, entry(name, whole(int64(j))))
			}
		}
		for j, name := range names {
			v := text("new")
			then, old := with(was, name, v)
			if want := (api.Value{Kind: api.Int, I: int64(j)}); j != i && !exact(old, want) || j == i && !exact(old, api.Value{}) {
				t.Fatalf("the test's own table: %s", value.Text(old))
			}
			wantDo(t, was, "put", []api.Value{text(name), v}, then, old)
		}
	}
	for n := range api.MaxKeys {
		was := numbered(n)
		for _, name := range append([]string{"a", "z", "k", "k0", "k05x", "k31x"}, key(0), key(n/2), key(n)) {
			then, old := with(was, name, list())
			wantDo(t, was, "put", []api.Value{text(name), list()}, then, old)
		}
	}
}

// P10.1: put is ErrFull, if k isn't there and there are MaxKeys; not, if it is.
func TestPutMaxKeys(t *testing.T) {
	almost, full := numbered(api.MaxKeys-1), numbered(api.MaxKeys)
	wantDo(t, almost, "put", []api.Value{text(key(api.MaxKeys - 1)), whole(api.MaxKeys - 1)}, full, api.Value{})
	for _, name := range []string{"a", "k", "k05x", "z", key(api.MaxKeys)} {
		then, _ := with(almost, name, whole(1))
		wantDo(t, almost, "put", []api.Value{text(name), whole(1)}, then, api.Value{})
		wantError(t, "MaxKeys", full, "put", []api.Value{text(name), whole(1)}, api.ErrFull)
		wantError(t, "MaxKeys", full, "put", []api.Value{text(name), {}}, api.ErrFull)
		wantError(t, "MaxKeys", crowd(full), "put", []api.Value{crowd(text(name)), crowd(whole(1))}, api.ErrFull)
		room, _ := without(full, key(7))
		then, _ = with(room, name, whole(1))
		wantDo(t, room, "put", []api.Value{text(name), whole(1)}, then, api.Value{})
	}
	for i := range api.MaxKeys {
		then, old := with(full, key(i), text("new"))
		wantDo(t, full, "put", []api.Value{text(key(i)), text("new")}, then, old)
	}
	wantError(t, "MaxKeys, and too great", full, "put", []api.Value{text("a"), filled(api.MaxSize)}, api.ErrFull)
	wantError(t, "too great in its place", full, "put", []api.Value{text(key(0)), filled(api.MaxSize)}, api.ErrFull)
}

// P10.1: put is ErrFull, if the state would be longer than MaxSize; up to that
// it isn't.
func TestPutMaxSize(t *testing.T) {
	k, l := text("k"), text("l")
	for _, room := range []int{0, 1, 2, 8, 9, 15, 16, 17, 300} {
		was := list(entry("k", filled(api.MaxSize-8-room)))
		for _, v := range samples() {
			size := 2 + 4 + value.Size(v)
			if size > room {
				wantError(t, "no room for one more", was, "put", []api.Value{l, v}, api.ErrFull)
			} else {
				wantDo(t, was, "put", []api.Value{l, v}, list(was.L[0], entry("l", v)), api.Value{})
			}
			wantDo(t, was, "put", []api.Value{k, v}, list(entry("k", v)), was.L[0].L[1])
		}
		then := list(entry("k", filled(api.MaxSize-8)))
		wantDo(t, was, "put", []api.Value{k, filled(api.MaxSize - 8)}, then, was.L[0].L[1])
		for _, more := range []int{-7, -1, 0} {
			wantError(t, "too great in its place", was, "put", []api.Value{k, filled(api.MaxSize + more)}, api.ErrFull)
		}
	}
	wantDo(t, list(), "put", []api.Value{k, filled(api.MaxSize - 8)}, list(entry("k", filled(api.MaxSize-8))), api.Value{})
	wantError(t, "too great alone", list(), "put", []api.Value{k, filled(api.MaxSize - 7)}, api.ErrFull)
	wantError(t, "a longer name", list(), "put", []api.Value{text("kk"), filled(api.MaxSize - 8)}, api.ErrFull)
}

// P10.1: put is ErrFull, if lists of the state would be more than MaxDepth in
// one another.
func TestPutMaxDepth(t *testing.T) {
	for _, was := range []api.Value{list(), numbered(3), list(entry("k", nested(api.MaxDepth-2, text("old"))))} {
		for _, name := range []string{"a", "k", key(1)} {
			for depth := range api.MaxDepth + 1 {
				for _, inner := range []api.Value{{}, whole(1), text("in")} {
					v := nested(depth, inner)
					if depth > api.MaxDepth-2 {
						wantError(t, "too deep", was, "put", []api.Value{text(name), v}, api.ErrFull)
						continue
					}
					then, old := with(was, name, v)
					wantDo(t, was, "put", []api.Value{text(name), v}, then, old)
				}
			}
			wantError(t, "too deep itself", was, "put", []api.Value{text(name), nested(api.MaxDepth+1, whole(1))}, api.ErrSize)
		}
	}
}

// P10.1: get answers what the name has, del what it had; each answers nil of
// one that isn't there. get holds what it held, del does so without the name.
func TestGetAndDel(t *testing.T) {
	for _, was := range tables() {
		asked := append(inOrder(), "k", "j", "l", "no", key(0), key(1), key(api.MaxKeys-1), key(api.MaxKeys))
		for _, name := range asked {
			then, old := without(was, name)
			wantDo(t, was, "get", []api.Value{text(name)}, was, old)
			wantDo(t, was, "del", []api.Value{text(name)}, then, old)
		}
	}
}

// P10.1: keys answers a List of the names in order, size how many there are.
func TestKeysAndSize(t *testing.T) {
	for _, was := range tables() {
		for _, none := range [][]api.Value{nil, {}} {
			wantDo(t, was, "keys", none, was, keysOf(was))
			wantDo(t, was, "size", none, was, whole(int64(len(was.L))))
		}
	}
	wantDo(t, numbered(api.MaxKeys), "size", nil, numbered(api.MaxKeys), whole(api.MaxKeys))
	wantDo(t, list(), "size", nil, list(), whole(0))
	wantDo(t, list(), "keys", nil, list(), list())
}

// P10.1: a name that has nil is there, though get answers as of one that isn't.
func TestNilIsAValue(t *testing.T) {
	k, was := []api.Value{text("k")}, list(entry("k", api.Value{}))
	wantDo(t, list(), "put", []api.Value{text("k"), {}}, was, api.Value{})
	wantDo(t, was, "get", k, was, api.Value{})
	wantDo(t, was, "size", nil, was, whole(1))
	wantDo(t, was, "keys", nil, was, list(k...))
	wantDo(t, was, "put", []api.Value{text("k"), whole(1)}, list(entry("k", whole(1))), api.Value{})
	wantDo(t, was, "del", k, list(), api.Value{})
	full := numbered(api.MaxKeys)
	full.L[4].L[1] = api.Value{}
	wantDo(t, full, "put", []api.Value{text(key(4)), whole(4)}, numbered(api.MaxKeys), api.Value{})
}

// P10.1: what is answered is Clean'd: NaN in Canon's form, noughts with their
// signs.
func TestNaNs(t *testing.T) {
	odd, canon, minus := nan(0xfff0000000000123), nan(canonNaN), float(math.Copysign(0, -1))
	was, clean, k := list(entry("k", list(odd, minus))), list(entry("k", list(canon, minus))), text("k")
	wantDo(t, was, "get", []api.Value{k}, clean, list(canon, minus))
	wantDo(t, was, "del", []api.Value{k}, list(), list(canon, minus))
	wantDo(t, was, "keys", nil, clean, list(k))
	wantDo(t, was, "size", nil, clean, whole(1))
	wantDo(t, was, "put", []api.Value{k, odd}, list(entry("k", canon)), list(canon, minus))
	wantDo(t, was, "put", []api.Value{text("j"), odd}, list(entry("j", canon), clean.L[0]), api.Value{})
}

// calls: right calls of each method.
func calls() map[string][]api.Value {
	return map[string][]api.Value{"del": {text("k")}, "get": {text("k")}, "keys": nil, "put": {text("k"), whole(1)}, "size": nil}
}

// P10.1, P10.2: a state that isn't Right is ErrBadArgs, whatever else is wrong.
func TestWrongState(t *testing.T) {
	for what, state := range wrongStates() {
		for method, l := range calls() {
			wantError(t, what, state, method, l, api.ErrBadArgs)
		}
		wantError(t, what, state, "put", []api.Value{text("k"), long(api.MaxText + 1)}, api.ErrBadArgs)
		wantError(t, what, state, "get", []api.Value{long(api.MaxText + 1)}, api.ErrBadArgs)
		wantError(t, what, state, "put", []api.Value{text("no"), filled(api.MaxSize)}, api.ErrBadArgs)
		wantError(t, what, state, "none", nil, api.ErrBadArgs)
	}
}

// P10.1, P10.2: args.Check's error of an argument, ahead of ErrFull: of what is
// no name, and of what is no value.
func TestWrongArguments(t *testing.T) {
	for _, c := range []struct {
		what string
		v    api.Value
		name api.Errno // what of the name
		had  api.Errno // what of the value
	}{
		{"nil", api.Value{}, api.ErrBadArgs, api.OK},
		{"an Int", whole(1), api.ErrBadArgs, api.OK},
		{"an Int, crowded", crowd(whole(1)), api.ErrBadArgs, api.OK},
		{"a Float", float(1), api.ErrBadArgs, api.OK},
		{"a list", list(text("k")), api.ErrBadArgs, api.OK},
		{"an empty list", list(), api.ErrBadArgs, api.OK},
		{"an empty text", text(""), api.ErrBadArgs, api.OK},
		{"a text of MaxName", long(api.MaxName), api.OK, api.OK},
		{"a text of MaxName + 1", long(api.MaxName + 1), api.ErrBadArgs, api.OK},
		{"a text of MaxText", long(api.MaxText), api.ErrBadArgs, api.OK},
		{"a text of MaxText + 1", long(api.MaxText + 1), api.ErrSize, api.ErrSize},
		{"of no kind", stray(5), api.ErrBadArgs, api.ErrBadArgs},
		{"of no kind, below", stray(-1), api.ErrBadArgs, api.ErrBadArgs},
		{"no kind in a list", list(stray(9)), api.ErrBadArgs, api.ErrBadArgs},
		{"a list of MaxItems + 1", times(api.MaxItems+1, api.Value{}), api.ErrSize, api.ErrSize},
		{"lists of MaxDepth", nested(api.MaxDepth, whole(1)), api.ErrBadArgs, api.ErrFull},
		{"lists of MaxDepth + 1", nested(api.MaxDepth+1, whole(1)), api.ErrSize, api.ErrSize},
		{"a value of MaxSize", filled(api.MaxSize), api.ErrBadArgs, api.ErrFull},
		{"a value of MaxSize + 1", filled(api.MaxSize + 1), api.ErrSize, api.ErrSize},
		{"a list that holds itself", ring(), api.ErrSize, api.ErrSize},
	} {
		if c.name != api.OK {
			for _, state := range []api.Value{list(), numbered(2), numbered(api.MaxKeys)} {
				wantError(t, c.what, state, "get", []api.Value{c.v}, c.name)
				wantError(t, c.what, state, "del", []api.Value{c.v}, c.name)
				wantError(t, c.what, state, "put", []api.Value{c.v, whole(1)}, c.name)
			}
		}
		if c.had != api.OK {
			wantError(t, c.what, list(), "put", []api.Value{text("k"), c.v}, c.had)
			wantError(t, c.what, numbered(api.MaxKeys), "put", []api.Value{text("k"), c.v}, c.had)
			wantError(t, c.what, numbered(api.MaxKeys), "put", []api.Value{text(key(0)), c.v}, c.had)
		}
		for _, method := range []string{"keys", "size"} {
			wantError(t, c.what, numbered(2), method, []api.Value{c.v}, api.ErrBadArgs)
		}
	}
	tooLong, noKind := long(api.MaxText+1), stray(9)
	wantError(t, "the first one", list(), "put", []api.Value{tooLong, noKind}, api.ErrSize)
	wantError(t, "the first one", list(), "put", []api.Value{noKind, tooLong}, api.ErrBadArgs)
	wantError(t, "a value's error ahead of a name's", list(), "put", []api.Value{whole(1), tooLong}, api.ErrSize)
}

// P10.1, P10.2: another number of arguments is ErrBadArgs, with nothing beside.
func TestWrongCounts(t *testing.T) {
	for method, right := range calls() {
		for n := range 2 * api.MaxArgs {
			if n != len(right) {
				wantError(t, "another count", numbered(2), method, slices.Repeat([]api.Value{text("k")}, n), api.ErrBadArgs)
				wantError(t, "another count", numbered(api.MaxKeys), method, slices.Repeat([]api.Value{text("k")}, n), api.ErrBadArgs)
			}
		}
	}
}

// P10.1, P10.2: no such method, other classes' ones too, is ErrBadArgs.
func TestNoSuchMethod(t *testing.T) {
	names := []string{"", " ", "Put", "PUT", "put ", " put", "puts", "pu", "put*", "del*", "put\x00", "\x00", "\xff", "key", "delete", "has", "table", "table.put", strings.Repeat("put", 5000)}
	for _, class := range args.Classes() {
		names = append(names, args.Methods(class)...)
	}
	for _, method := range names {
		if _, own := calls()[method]; own {
			continue
		}
		for n := range 4 {
			wantError(t, "no such method", numbered(2), method, slices.Repeat([]api.Value{text("k")}, n), api.ErrBadArgs)
		}
	}
}
