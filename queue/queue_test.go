package queue_test

import (
	"math"
	"reflect"
	"slices"
	"strings"
	"testing"

	"choir/api"
	"choir/args"
	"choir/queue"
	"choir/value"
)

// canonNaN: the bits of the one NaN that is answered.
const canonNaN uint64 = 0x7ff8000000000001

func whole(i int64) api.Value { return api.Value{Kind: api.Int, I: i} }

func float(f float64) api.Value { return api.Value{Kind: api.Float, F: f} }

func nan(bits uint64) api.Value { return float(math.Float64frombits(bits)) }

func text(s string) api.Value { return api.Value{Kind: api.Text, S: s} }

func long(n int) api.Value { return text(strings.Repeat("x", n)) }

func list(l ...api.Value) api.Value { return api.Value{Kind: api.List, L: l} }

func times(n int, v api.Value) api.Value { return list(slices.Repeat([]api.Value{v}, n)...) }

func stray(kind int) api.Value { return api.Value{Kind: kind, I: 1, F: 1, S: "a"} }

// numbered gives a queue of n numbers, 0, 1 ..
func numbered(n int) api.Value {
	state := list()
	for i := range n {
		state.L = append(state.L, whole(int64(i)))
	}
	return state
}

// nested gives v in n lists.
func nested(n int, v api.Value) api.Value {
	for range n {
		v = list(v)
	}
	return v
}

// filled gives a list of size bytes on the wire, in texts.
func filled(size int) api.Value {
	v := list()
	for left := size - 2; left > 0; left -= min(left, 203) {
		v.L = append(v.L, long(min(left, 203)-3))
	}
	return v
}

// ring gives a list that holds itself.
func ring() api.Value {
	v := list(text("a"), api.Value{})
	v.L[1] = v
	return v
}

// crowd fills the fields that v's kind hasn't.
func crowd(v api.Value) api.Value {
	c := api.Value{Kind: v.Kind, I: 7, F: math.NaN(), S: "crowd", L: []api.Value{text("x"), stray(9)}}
	switch v.Kind {
	case api.Int:
		c.I = v.I
	case api.Float:
		c.F = v.F
	case api.Text:
		c.S = v.S
	case api.List:
		c.L = nil
		for _, item := range v.L {
			c.L = append(c.L, crowd(item))
		}
	}
	return c
}

// exact holds two values against each other field by field, floats by bits.
func exact(a, b api.Value) bool {
	return a.Kind == b.Kind && a.I == b.I && math.Float64bits(a.F) == math.Float64bits(b.F) && a.S == b.S && slices.EqualFunc(a.L, b.L, exact)
}

// samples: values that a queue may hold, each in its clean form.
func samples() []api.Value {
	return []api.Value{
		{}, whole(0), whole(1), whole(math.MinInt64), whole(math.MaxInt64),
		nan(canonNaN), float(0), float(math.Copysign(0, -1)), float(0.5), float(math.Inf(1)), float(math.Inf(-1)),
		text(""), text("a"), text("\xff\xfe"), long(api.MaxText - 1), long(api.MaxText),
		list(), list(api.Value{}), list(nan(canonNaN)), list(whole(1), text("a")), times(api.MaxItems-1, api.Value{}), times(api.MaxItems, api.Value{}),
		nested(api.MaxDepth-2, list()), nested(api.MaxDepth-1, whole(1)), filled(3000),
	}
}

// queues: states that are Right, each in its clean form.
func queues() []api.Value {
	states := []api.Value{
		list(), numbered(1), numbered(2), numbered(3), numbered(api.MaxKeys - 1), numbered(api.MaxKeys),
		times(api.MaxKeys, api.Value{}), times(api.MaxKeys, list(whole(1))),
		list(filled(api.MaxSize - 2)), list(filled(api.MaxSize-4), api.Value{}, api.Value{}),
	}
	for _, v := range samples() {
		states = append(states, list(v), list(whole(1), v, api.Value{}), list(v, whole(1), whole(1)))
	}
	return states
}

// wrongStates: what isn't Right.
func wrongStates() map[string]api.Value {
	one := []api.Value{whole(1)}
	return map[string]api.Value{
		"nil":                            {},
		"an Int":                         whole(0),
		"a Float":                        float(0),
		"a text":                         text("[]"),
		"of no kind":                     stray(5),
		"of no kind, with items":         {Kind: 5, L: one},
		"of no kind, below, with items":  {Kind: -1, L: one},
		"of no kind, far off":            {Kind: math.MinInt, L: one},
		"nil with items":                 {L: one},
		"an Int with items":              {Kind: api.Int, L: one},
		"a text with items":              {Kind: api.Text, L: one},
		"MaxKeys + 1":                    numbered(api.MaxKeys + 1),
		"MaxKeys + 1 of nil":             times(api.MaxKeys+1, api.Value{}),
		"MaxItems":                       numbered(api.MaxItems),
		"MaxItems + 1":                   numbered(api.MaxItems + 1),
		"an item of no kind":             list(stray(9)),
		"the first one of no kind":       list(stray(5), whole(1)),
		"the last one of no kind":        list(whole(1), stray(-1)),
		"no kind in an item":             list(list(whole(1), stray(9))),
		"a text of MaxText + 1":          list(long(api.MaxText + 1)),
		"a text of MaxText + 1 at last":  list(whole(1), long(api.MaxText+1)),
		"a list of MaxItems + 1":         list(times(api.MaxItems+1, api.Value{})),
		"an item that is too deep":       list(nested(api.MaxDepth, whole(1))),
		"an empty list that is too deep": list(nested(api.MaxDepth-1, list())),
		"an item that is too great":      list(filled(api.MaxSize + 1)),
		"a byte too many":                list(filled(api.MaxSize - 1)),
		"a byte too many in all":         list(filled(api.MaxSize-11), whole(1), api.Value{}),
		"a list that holds itself":       ring(),
		"an item that holds itself":      list(ring()),
	}
}

// wantDo asks for the state and the answer to the last bit, of what is handed
// in as it is, and of what holds more than its kinds have.
func wantDo(t *testing.T, was api.Value, method string, l []api.Value, then, answer api.Value) {
	t.Helper()
	crowded := crowd(list(l...)).L
	for i, given := range [][]api.Value{l, crowded, l, crowded} {
		state := was
		if i > 1 {
			state = crowd(was)
		}
		gotThen, gotAnswer, err := queue.Do(state, method, given)
		if err != api.OK || !exact(gotThen, then) || !exact(gotAnswer, answer) {
			t.Errorf("Do(%.80s, %q, %.80s): %.80s, %.40s, %v; wanted %.80s, %.40s",
				value.Text(was), method, value.Text(list(l...)), value.Text(gotThen), value.Text(gotAnswer), err, value.Text(then), value.Text(answer))
		}
	}
}

// wantError asks for the error, and nothing beside it.
func wantError(t *testing.T, what string, was api.Value, method string, l []api.Value, want api.Errno) {
	t.Helper()
	then, answer, err := queue.Do(was, method, l)
	if err != want || !reflect.DeepEqual(then, api.Value{}) || !reflect.DeepEqual(answer, api.Value{}) {
		t.Errorf("%s: Do(.., %.40q, %d args): %.40q, %.40q, %v; wanted %v alone", what, method, len(l), value.Text(then), value.Text(answer), err, want)
	}
}

// with gives the queue with v as its last one.
func with(was api.Value, v api.Value) api.Value { return list(slices.Concat(was.L, []api.Value{v})...) }

// P11.1: Right is a List of at most MaxKeys values, of no value.Check's error.
func TestRight(t *testing.T) {
	for _, state := range queues() {
		if !queue.Right(state) || !queue.Right(crowd(state)) {
			t.Errorf("%.80s isn't Right", value.Text(state))
		}
	}
	for what, v := range map[string]api.Value{
		"an empty list that isn't nil": {Kind: api.List, L: []api.Value{}},
		"another NaN":                  list(nan(0xfff0000000000123)),
	} {
		if !queue.Right(v) {
			t.Errorf("%s isn't Right", what)
		}
	}
	if begin, _ := args.Start("queue"); !queue.Right(begin) {
		t.Error("what a queue begins with isn't Right")
	}
	for what, state := range wrongStates() {
		if queue.Right(state) {
			t.Errorf("%s is Right", what)
		}
	}
	for n := range api.MaxItems + 2 {
		if got := queue.Right(numbered(n)); got != (n <= api.MaxKeys) {
			t.Errorf("%d values: %v", n, got)
		}
	}
}

// P11.1: push(v) makes v the last one, and answers how many there are then.
func TestPush(t *testing.T) {
	begin, _ := args.Start("queue")
	wantDo(t, begin, "push", []api.Value{whole(1)}, list(whole(1)), whole(1))
	for _, v := range samples() {
		wantDo(t, list(), "push", []api.Value{v}, list(v), whole(1))
		for _, was := range queues() {
			if then := with(was, v); queue.Right(then) {
				wantDo(t, was, "push", []api.Value{v}, then, whole(int64(len(was.L)+1)))
			} else {
				wantError(t, "no room", was, "push", []api.Value{v}, api.ErrFull)
			}
		}
	}
	for n := range api.MaxKeys {
		wantDo(t, numbered(n), "push", []api.Value{whole(int64(n))}, numbered(n+1), whole(int64(n+1)))
	}
}

// P11.1: push is ErrFull, if there were MaxKeys, whatever v is.
func TestPushMaxKeys(t *testing.T) {
	almost, full := numbered(api.MaxKeys-1), numbered(api.MaxKeys)
	wantDo(t, almost, "push", []api.Value{whole(api.MaxKeys - 1)}, full, whole(api.MaxKeys))
	for _, v := range samples() {
		wantError(t, "MaxKeys", full, "push", []api.Value{v}, api.ErrFull)
		wantError(t, "MaxKeys", times(api.MaxKeys, api.Value{}), "push", []api.Value{v}, api.ErrFull)
		wantError(t, "MaxKeys", crowd(full), "push", []api.Value{crowd(v)}, api.ErrFull)
	}
	wantError(t, "MaxKeys, and too great", full, "push", []api.Value{filled(api.MaxSize)}, api.ErrFull)
	wantError(t, "MaxKeys, and too deep", full, "push", []api.Value{nested(api.MaxDepth, whole(1))}, api.ErrFull)
}

// P11.1: push is ErrFull, if the state would be longer than MaxSize; up to that
// it isn't.
func TestPushMaxSize(t *testing.T) {
	for _, room := range []int{0, 1, 2, 3, 8, 9, 10, 255, 256, 258, 259, 300} {
		was := list(filled(api.MaxSize - 2 - room))
		for _, v := range samples() {
			if value.Size(v) > room {
				wantError(t, "no room", was, "push", []api.Value{v}, api.ErrFull)
			} else {
				wantDo(t, was, "push", []api.Value{v}, with(was, v), whole(2))
			}
		}
	}
	wantDo(t, list(), "push", []api.Value{filled(api.MaxSize - 2)}, list(filled(api.MaxSize-2)), whole(1))
	for _, size := range []int{api.MaxSize - 1, api.MaxSize} {
		wantError(t, "too great alone", list(), "push", []api.Value{filled(size)}, api.ErrFull)
	}
	wantError(t, "too great itself", list(), "push", []api.Value{filled(api.MaxSize + 1)}, api.ErrSize)
}

// P11.1: push is ErrFull, if lists of the state would be more than MaxDepth in
// one another.
func TestPushMaxDepth(t *testing.T) {
	for _, was := range []api.Value{list(), numbered(3), list(nested(api.MaxDepth-1, text("old")))} {
		for depth := range api.MaxDepth + 1 {
			for _, inner := range []api.Value{{}, whole(1), text("in")} {
				v := nested(depth, inner)
				if depth > api.MaxDepth-1 {
					wantError(t, "too deep", was, "push", []api.Value{v}, api.ErrFull)
				} else {
					wantDo(t, was, "push", []api.Value{v}, with(was, v), whole(int64(len(was.L)+1)))
				}
			}
		}
		wantError(t, "too deep itself", was, "push", []api.Value{nested(api.MaxDepth+1, whole(1))}, api.ErrSize)
	}
}

// P11.1: pop answers the first one, which goes; peek does so, and it stays; len
// answers how many there are.
func TestPopPeekLen(t *testing.T) {
	for _, was := range queues() {
		for _, none := range [][]api.Value{nil, {}} {
			wantDo(t, was, "len", none, was, whole(int64(len(was.L))))
			if len(was.L) > 0 {
				wantDo(t, was, "pop", none, list(was.L[1:]...), was.L[0])
				wantDo(t, was, "peek", none, was, was.L[0])
			}
		}
	}
	for n := range api.MaxKeys + 1 {
		wantDo(t, numbered(n), "len", nil, numbered(n), whole(int64(n)))
	}
}

// P11.1: pop and peek answer nil of none, which is no error.
func TestPopAndPeekOfNone(t *testing.T) {
	begin, _ := args.Start("queue")
	for _, was := range []api.Value{begin, list(), {Kind: api.List, L: []api.Value{}}, {Kind: api.List, L: numbered(2).L[:0]}} {
		wantDo(t, was, "pop", nil, list(), api.Value{})
		wantDo(t, was, "peek", nil, list(), api.Value{})
		wantDo(t, was, "len", nil, list(), whole(0))
	}
}

// P11.1: a nil that was pushed is there, though pop and peek answer as of none.
func TestNilIsAValue(t *testing.T) {
	was := list(api.Value{}, api.Value{}, whole(1))
	wantDo(t, list(), "push", []api.Value{{}}, list(api.Value{}), whole(1))
	wantDo(t, was, "len", nil, was, whole(3))
	wantDo(t, was, "peek", nil, was, api.Value{})
	wantDo(t, was, "nth", []api.Value{whole(1)}, was, api.Value{})
	wantDo(t, was, "pop", nil, list(api.Value{}, whole(1)), api.Value{})
	wantDo(t, list(api.Value{}), "pop", nil, list(), api.Value{})
}

// P11.1, P11.2: nth(i) answers the i-th one, from 0 on; where there is none, it
// is ErrPanic, with nothing beside.
func TestNth(t *testing.T) {
	for _, was := range queues() {
		for i, v := range was.L {
			wantDo(t, was, "nth", []api.Value{whole(int64(i))}, was, v)
		}
		n := int64(len(was.L))
		for _, i := range []int64{
			n, n + 1, api.MaxKeys, api.MaxItems, -1, -2, -n - 1, math.MinInt8, math.MaxUint8 + 1, math.MaxUint16 + 1,
			math.MinInt32, math.MaxInt32, 1 << 31, 1 << 32, 1<<32 + 1, -1 << 32, 1 << 62, math.MaxInt64, math.MinInt64, math.MinInt64 + 1,
		} {
			wantError(t, "there is none", was, "nth", []api.Value{whole(i)}, api.ErrPanic)
			wantError(t, "there is none", crowd(was), "nth", []api.Value{crowd(whole(i))}, api.ErrPanic)
		}
	}
}

// P11.1: nth doesn't find what stands in the spare room behind the state.
func TestNthOfSpareRoom(t *testing.T) {
	all := numbered(4).L
	for n := range len(all) {
		was := api.Value{Kind: api.List, L: all[:n]}
		for i := range len(all) {
			l := []api.Value{whole(int64(i))}
			if i < n {
				wantDo(t, was, "nth", l, numbered(n), whole(int64(i)))
			} else {
				wantError(t, "spare room", was, "nth", l, api.ErrPanic)
			}
		}
	}
}

// P11.1: nth's panic is caught within; one that goes on about the call is left
// to those whose it is.
func TestPanicsOfOthers(t *testing.T) {
	var told any
	func() {
		defer func() { told = recover() }()
		defer func() {
			wantDo(t, numbered(2), "nth", []api.Value{whole(1)}, numbered(2), whole(1))
			wantError(t, "within a panic", numbered(2), "nth", []api.Value{whole(2)}, api.ErrPanic)
		}()
		panic("of others")
	}()
	if told != "of others" {
		t.Errorf("another's panic: %v", told)
	}
}

// P11.1: what is answered has NaN in Canon's form, noughts with their signs.
func TestNaNs(t *testing.T) {
	odd, canon, minus := nan(0xfff0000000000123), nan(canonNaN), float(math.Copysign(0, -1))
	was, clean := list(list(odd, minus), odd), list(list(canon, minus), canon)
	wantDo(t, was, "push", []api.Value{list(odd)}, with(clean, list(canon)), whole(3))
	wantDo(t, was, "pop", nil, list(canon), list(canon, minus))
	wantDo(t, was, "peek", nil, clean, list(canon, minus))
	wantDo(t, was, "len", nil, clean, whole(2))
	wantDo(t, was, "nth", []api.Value{whole(1)}, clean, canon)
	wantDo(t, list(minus), "pop", nil, list(), minus)
}

// calls: right calls of each method.
func calls() map[string][]api.Value {
	return map[string][]api.Value{"len": nil, "nth": {whole(0)}, "peek": nil, "pop": nil, "push": {whole(1)}}
}

// P11.1, P11.2: a state that isn't Right is ErrBadArgs, whatever else is wrong.
func TestWrongState(t *testing.T) {
	for what, state := range wrongStates() {
		for method, l := range calls() {
			wantError(t, what, state, method, l, api.ErrBadArgs)
		}
		wantError(t, what, state, "push", []api.Value{long(api.MaxText + 1)}, api.ErrBadArgs)
		wantError(t, what, state, "push", []api.Value{filled(api.MaxSize)}, api.ErrBadArgs)
		wantError(t, what, state, "nth", []api.Value{whole(-1)}, api.ErrBadArgs)
		wantError(t, what, state, "nth", []api.Value{long(api.MaxText + 1)}, api.ErrBadArgs)
		wantError(t, what, state, "none", nil, api.ErrBadArgs)
	}
}

// P11.1, P11.2: args.Check's error of an argument, ahead of ErrFull and of
// ErrPanic: of what is no Int, and of what is no value.
func TestWrongArguments(t *testing.T) {
	for _, c := range []struct {
		what       string
		v          api.Value
		nth, push  api.Errno // of a queue that has room
		pushOfFull api.Errno
	}{
		{"nil", api.Value{}, api.ErrBadArgs, api.OK, api.ErrFull},
		{"a Float", float(0), api.ErrBadArgs, api.OK, api.ErrFull},
		{"a Float, crowded", crowd(float(0)), api.ErrBadArgs, api.OK, api.ErrFull},
		{"a NaN", nan(canonNaN), api.ErrBadArgs, api.OK, api.ErrFull},
		{"a text", text("0"), api.ErrBadArgs, api.OK, api.ErrFull},
		{"a list", list(whole(0)), api.ErrBadArgs, api.OK, api.ErrFull},
		{"an empty list", list(), api.ErrBadArgs, api.OK, api.ErrFull},
		{"a text of MaxText", long(api.MaxText), api.ErrBadArgs, api.OK, api.ErrFull},
		{"a text of MaxText + 1", long(api.MaxText + 1), api.ErrSize, api.ErrSize, api.ErrSize},
		{"of no kind", stray(5), api.ErrBadArgs, api.ErrBadArgs, api.ErrBadArgs},
		{"of no kind, below", stray(-1), api.ErrBadArgs, api.ErrBadArgs, api.ErrBadArgs},
		{"no kind in a list", list(stray(9)), api.ErrBadArgs, api.ErrBadArgs, api.ErrBadArgs},
		{"a list of MaxItems", times(api.MaxItems, api.Value{}), api.ErrBadArgs, api.OK, api.ErrFull},
		{"a list of MaxItems + 1", times(api.MaxItems+1, api.Value{}), api.ErrSize, api.ErrSize, api.ErrSize},
		{"lists of MaxDepth", nested(api.MaxDepth, whole(1)), api.ErrBadArgs, api.ErrFull, api.ErrFull},
		{"lists of MaxDepth + 1", nested(api.MaxDepth+1, whole(1)), api.ErrSize, api.ErrSize, api.ErrSize},
		{"a value of MaxSize", filled(api.MaxSize), api.ErrBadArgs, api.ErrFull, api.ErrFull},
		{"a value of MaxSize + 1", filled(api.MaxSize + 1), api.ErrSize, api.ErrSize, api.ErrSize},
		{"a list that holds itself", ring(), api.ErrSize, api.ErrSize, api.ErrSize},
	} {
		l, full := []api.Value{c.v}, numbered(api.MaxKeys)
		for _, state := range []api.Value{list(), numbered(2), full} {
			wantError(t, c.what, state, "nth", l, c.nth)
			for _, method := range []string{"len", "peek", "pop"} {
				wantError(t, c.what, state, method, l, api.ErrBadArgs)
			}
		}
		if c.push != api.OK {
			wantError(t, c.what, list(), "push", l, c.push)
			wantError(t, c.what, numbered(2), "push", l, c.push)
		}
		wantError(t, c.what, full, "push", l, c.pushOfFull)
	}
}

// P11.1, P11.2: another number of arguments is ErrBadArgs, with nothing beside.
func TestWrongCounts(t *testing.T) {
	for method, right := range calls() {
		for n := range 2 * api.MaxArgs {
			if n != len(right) {
				for _, state := range []api.Value{list(), numbered(2), numbered(api.MaxKeys)} {
					wantError(t, "another count", state, method, slices.Repeat([]api.Value{whole(0)}, n), api.ErrBadArgs)
				}
			}
		}
	}
}

// P11.1, P11.2: no such method, other classes' ones too, is ErrBadArgs.
func TestNoSuchMethod(t *testing.T) {
	names := []string{"", " ", "Push", "PUSH", "push ", " push", "pushes", "pus", "push*", "pop*", "pop\x00", "\x00", "\xff", "size", "first", "queue", "queue.push", strings.Repeat("push", 5000)}
	for _, class := range args.Classes() {
		names = append(names, args.Methods(class)...)
	}
	for _, method := range names {
		if _, own := calls()[method]; own {
			continue
		}
		for n := range 4 {
			wantError(t, "no such method", numbered(2), method, slices.Repeat([]api.Value{whole(0)}, n), api.ErrBadArgs)
		}
	}
}

// P11.1: the methods are those that args tells of.
func TestMethods(t *testing.T) {
	for _, method := range args.Methods("queue") {
		if _, _, err := queue.Do(numbered(1), method, calls()[method]); err != api.OK {
			t.Errorf("%s: %v", method, err)
		}
		then, _, _ := queue.Do(numbered(1), method, calls()[method])
		if writes := !exact(then, numbered(1)); writes != args.Writes("queue", method) {
			t.Errorf("%s: it writes: %v", method, writes)
		}
	}
}
