package register_test

import (
	"math"
	"reflect"
	"slices"
	"strings"
	"sync"
	"testing"

	"choir/api"
	"choir/args"
	"choir/register"
	"choir/value"
)

// canonNaN: the bits of the one NaN that is answered.
const canonNaN uint64 = 0x7ff8000000000001

func whole(i int64) api.Value { return api.Value{Kind: api.Int, I: i} }

func float(f float64) api.Value { return api.Value{Kind: api.Float, F: f} }

func nan(bits uint64) api.Value { return float(math.Float64frombits(bits)) }

func negativeZero() api.Value { return float(math.Copysign(0, -1)) }

func text(s string) api.Value { return api.Value{Kind: api.Text, S: s} }

func long(n int) api.Value { return text(strings.Repeat("x", n)) }

func list(l ...api.Value) api.Value { return api.Value{Kind: api.List, L: l} }

func times(n int, v api.Value) api.Value { return list(slices.Repeat([]api.Value{v}, n)...) }

func stray(kind int) api.Value { return api.Value{Kind: kind, I: 1, F: 1, S: "a"} }

// nested gives v in n lists.
func nested(n int, v api.Value) api.Value {
	for range n {
		v = list(v)
	}
	return v
}

// filled gives a list of size bytes on the wire, in texts.
func filled(size int) api.Value {
	v := list()
	for left := size - 2; left > 0; left -= min(left, 203) {
		v.L = append(v.L, long(min(left, 203)-3))
	}
	return v
}

// ring gives a list that holds itself.
func ring() api.Value {
	v := list(text("a"), api.Value{})
	v.L[1] = v
	return v
}

// crowd fills the fields that v's kind hasn't.
func crowd(v api.Value) api.Value {
	c := api.Value{Kind: v.Kind, I: 7, F: math.NaN(), S: "crowd", L: []api.Value{text("x"), stray(9)}}
	switch v.Kind {
	case api.Int:
		c.I = v.I
	case api.Float:
		c.F = v.F
	case api.Text:
		c.S = v.S
	case api.List:
		c.L = nil
		for _, item := range v.L {
			c.L = append(c.L, crowd(item))
		}
	}
	return c
}

// exact holds two values against each other field by field, floats by bits.
func exact(a, b api.Value) bool {
	return a.Kind == b.Kind && a.I == b.I && math.Float64bits(a.F) == math.Float64bits(b.F) && a.S == b.S && slices.EqualFunc(a.L, b.L, exact)
}

// samples: values that a register may hold, each in its clean form; no two of
// them are Equal.
func samples() []api.Value {
	return []api.Value{
		{},
		whole(0), whole(1), whole(-1), whole(math.MinInt64), whole(math.MaxInt64), whole(1 << 53), whole(1<<53 + 1),
		nan(canonNaN), float(0), float(1), float(-1), float(0.5), float(math.SmallestNonzeroFloat64), float(-math.SmallestNonzeroFloat64),
		float(math.MaxFloat64), float(1 << 53), float(math.Inf(1)), float(math.Inf(-1)),
		text(""), text("a"), text("A"), text("\x00"), text("\xff\xfe"), text("nil"), text("0"), long(api.MaxText - 1), long(api.MaxText),
		list(), list(api.Value{}), list(whole(0)), list(float(0)), list(nan(canonNaN)), list(list()), list(text("")), list(whole(1), whole(2)), list(whole(2), whole(1)),
		times(api.MaxItems-1, api.Value{}), times(api.MaxItems, api.Value{}), nested(api.MaxDepth, whole(1)), nested(api.MaxDepth, text("in")),
		filled(api.MaxSize - 1), filled(api.MaxSize),
	}
}

// faulty: values that no register holds, and value.Check's error of each.
func faulty() []struct {
	what string
	v    api.Value
	want api.Errno
} {
	return []struct {
		what string
		v    api.Value
		want api.Errno
	}{
		{"of no kind", stray(5), api.ErrBadArgs},
		{"of no kind, below", stray(-1), api.ErrBadArgs},
		{"of no kind, far off", stray(math.MinInt), api.ErrBadArgs},
		{"no kind in a list", list(whole(1), stray(9)), api.ErrBadArgs},
		{"no kind beside a longer text", list(long(api.MaxText+1), stray(9)), api.ErrBadArgs},
		{"a text of MaxText + 1", long(api.MaxText + 1), api.ErrSize},
		{"a text of MaxText + 1 in a list", list(long(api.MaxText + 1)), api.ErrSize},
		{"a list of MaxItems + 1", times(api.MaxItems+1, api.Value{}), api.ErrSize},
		{"lists of MaxDepth + 1", nested(api.MaxDepth+1, api.Value{}), api.ErrSize},
		{"a value of MaxSize + 1", filled(api.MaxSize + 1), api.ErrSize},
		{"a list that holds itself", ring(), api.ErrSize},
	}
}

// wantDo asks for the state and the answer to the last bit.
func wantDo(t *testing.T, state api.Value, method string, l []api.Value, then, answer api.Value) {
	t.Helper()
	gotThen, gotAnswer, err := register.Do(state, method, l)
	if err != api.OK || !exact(gotThen, then) || !exact(gotAnswer, answer) {
		t.Errorf("Do(%.40s, %q, %.80s): %.40s, %.40s, %v; wanted %.40s, %.40s",
			value.Text(state), method, value.Text(list(l...)), value.Text(gotThen), value.Text(gotAnswer), err, value.Text(then), value.Text(answer))
	}
}

// wantError asks for the error, and nothing beside it.
func wantError(t *testing.T, what string, state api.Value, method string, l []api.Value, want api.Errno) {
	t.Helper()
	then, answer, err := register.Do(state, method, l)
	if err != want || !reflect.DeepEqual(then, api.Value{}) || !reflect.DeepEqual(answer, api.Value{}) {
		t.Errorf("%s: Do(.., %.40q, %d args): %.40q, %.40q, %v; wanted %v alone", what, method, len(l), value.Text(then), value.Text(answer), err, want)
	}
}

// P8.1: Right is any value that value.Check has no error for.
func TestRight(t *testing.T) {
	for _, v := range samples() {
		if !register.Right(v) || !register.Right(crowd(v)) {
			t.Errorf("%.40s isn't Right", value.Text(v))
		}
	}
	for _, v := range []api.Value{negativeZero(), nan(0xfff0000000000123), nan(0x7ff0000000000001), {Kind: api.List, L: []api.Value{}}} {
		if !register.Right(v) {
			t.Errorf("%s isn't Right", value.Text(v))
		}
	}
	for _, f := range faulty() {
		if register.Right(f.v) {
			t.Errorf("%s is Right", f.what)
		}
	}
	if state, _ := args.Start("register"); !register.Right(state) {
		t.Error("what a register begins with isn't Right")
	}
}

// P8.1: set(v) holds v, and answers the old one.
func TestSet(t *testing.T) {
	for _, old := range samples() {
		for _, v := range samples() {
			wantDo(t, old, "set", []api.Value{v}, v, old)
			wantDo(t, crowd(old), "set", []api.Value{crowd(v)}, v, old)
		}
	}
}

// P8.1: get answers the state, which stays.
func TestGet(t *testing.T) {
	for _, v := range samples() {
		wantDo(t, v, "get", nil, v, v)
		wantDo(t, v, "get", []api.Value{}, v, v)
		wantDo(t, crowd(v), "get", nil, v, v)
	}
}

// P8.1: cas(a, b) holds b and answers 1, if the state is a; else it holds what
// it held, and answers 0.
func TestCas(t *testing.T) {
	for i, state := range samples() {
		for j, a := range samples() {
			for _, b := range []api.Value{{}, whole(9), list(text("b")), state, a} {
				then, answer := state, whole(0)
				if i == j {
					then, answer = b, whole(1)
				}
				wantDo(t, state, "cas", []api.Value{a, b}, then, answer)
				wantDo(t, crowd(state), "cas", []api.Value{crowd(a), crowd(b)}, then, answer)
			}
		}
	}
}

// P8.1: cas asks value.Equal, with the edges of floats; what it holds then is
// b to the last bit, or what it held.
func TestCasEdges(t *testing.T) {
	one, zero, minus, odd, canon := float(1), float(0), negativeZero(), nan(0xfff0000000000123), nan(canonNaN)
	for _, c := range []struct {
		what        string
		state, a, b api.Value
		then        api.Value
		swapped     int64
	}{
		{"the document's example", api.Value{}, api.Value{}, whole(1), whole(1), 1},
		{"NaN and NaN", canon, canon, one, one, 1},
		{"NaNs of other bits", odd, nan(0x7ff0000000000001), one, one, 1},
		{"NaN by NaN", canon, canon, odd, canon, 1},
		{"no NaN by NaN", one, canon, zero, one, 0},
		{"NaN by no NaN", odd, one, zero, canon, 0},
		{"NaN by an infinity", canon, float(math.Inf(1)), zero, canon, 0},
		{"0.0 by -0.0", zero, minus, one, one, 1},
		{"-0.0 by 0.0", minus, zero, one, one, 1},
		{"0.0 gets a sign", zero, zero, minus, minus, 1},
		{"-0.0 loses its sign", minus, zero, zero, zero, 1},
		{"-0.0 stays so", minus, one, zero, minus, 0},
		{"0.0 and the least float", zero, float(math.SmallestNonzeroFloat64), one, zero, 0},
		{"the infinities", float(math.Inf(1)), float(math.Inf(-1)), one, float(math.Inf(1)), 0},
		{"an infinity", float(math.Inf(-1)), float(math.Inf(-1)), one, one, 1},
		{"an infinity by the greatest float", float(math.Inf(1)), float(math.MaxFloat64), one, float(math.Inf(1)), 0},
		{"floats next to each other", one, float(math.Nextafter(1, 2)), zero, one, 0},
		{"Int 1 by Float 1.0", whole(1), one, zero, whole(1), 0},
		{"Float 1.0 by Int 1", one, whole(1), zero, one, 0},
		{"Int 0 by Float -0.0", whole(0), minus, one, whole(0), 0},
		{"Ints that are one Float", whole(1 << 53), whole(1<<53 + 1), one, whole(1 << 53), 0},
		{"nil by an empty list", api.Value{}, list(), one, api.Value{}, 0},
		{"an empty list by one that isn't nil", list(), api.Value{Kind: api.List, L: []api.Value{}}, one, one, 1},
		{"lists with NaN and noughts", list(odd, list(zero)), list(canon, list(minus)), list(odd, minus), list(canon, minus), 1},
		{"a list with NaN stays, cleaned", list(odd, list(minus)), list(canon, list(one)), one, list(canon, list(minus)), 0},
		{"a list by its beginning", list(one, one), list(one), zero, list(one, one), 0},
		{"a list by a longer one", list(one), list(one, one), zero, list(one), 0},
	} {
		then, answer, err := register.Do(c.state, "cas", []api.Value{c.a, c.b})
		if err != api.OK || !exact(then, c.then) || !exact(answer, whole(c.swapped)) {
			t.Errorf("%s: %s, %s, %v", c.what, value.Text(then), value.Text(answer), err)
		}
	}
}

// P8.1: the state then and what is answered are Clean'd: NaN in Canon's form.
func TestNaNs(t *testing.T) {
	one, odd, canon := float(1), nan(0xfff0000000000123), nan(canonNaN)
	wantDo(t, odd, "get", nil, canon, canon)
	wantDo(t, list(list(odd)), "get", nil, list(list(canon)), list(list(canon)))
	wantDo(t, odd, "set", []api.Value{nan(0x7ff0000000000001)}, canon, canon)
	wantDo(t, one, "set", []api.Value{list(odd)}, list(canon), one)
	wantDo(t, list(odd), "set", []api.Value{one}, one, list(canon))
	wantDo(t, one, "cas", []api.Value{one, odd}, canon, whole(1))
	wantDo(t, odd, "cas", []api.Value{one, one}, canon, whole(0))
	wantDo(t, negativeZero(), "get", nil, negativeZero(), negativeZero())
	wantDo(t, float(0), "set", []api.Value{negativeZero()}, negativeZero(), float(0))
}

// calls: right calls of each method.
func calls() map[string][]api.Value {
	return map[string][]api.Value{"get": nil, "set": {whole(1)}, "cas": {whole(1), whole(2)}}
}

// P8.1, P8.2: a state that isn't Right is ErrBadArgs, whatever else is wrong;
// both are nil then.
func TestWrongState(t *testing.T) {
	for _, f := range faulty() {
		for method, l := range calls() {
			wantError(t, f.what, f.v, method, l, api.ErrBadArgs)
		}
		wantError(t, f.what, f.v, "set", []api.Value{long(api.MaxText + 1)}, api.ErrBadArgs)
		wantError(t, f.what, f.v, "cas", []api.Value{f.v, f.v}, api.ErrBadArgs)
		wantError(t, f.what, f.v, "none", nil, api.ErrBadArgs)
	}
}

// P8.1, P8.2: args.Check's error of each argument; both are nil then.
func TestWrongArguments(t *testing.T) {
	for _, state := range samples() {
		for _, f := range faulty() {
			wantError(t, f.what, state, "set", []api.Value{f.v}, f.want)
			wantError(t, f.what, state, "cas", []api.Value{f.v, state}, f.want)
			wantError(t, f.what, state, "cas", []api.Value{state, f.v}, f.want)
			wantError(t, f.what, state, "cas", []api.Value{whole(77), f.v}, f.want)
			wantError(t, f.what, state, "get", []api.Value{f.v}, api.ErrBadArgs)
			wantError(t, f.what, state, "set", []api.Value{state, f.v}, api.ErrBadArgs)
		}
	}
	tooLong, noKind := long(api.MaxText+1), stray(9)
	wantError(t, "the first one", whole(1), "cas", []api.Value{tooLong, noKind}, api.ErrSize)
	wantError(t, "the first one", whole(1), "cas", []api.Value{noKind, tooLong}, api.ErrBadArgs)
}

// P8.1, P8.2: another number of arguments is ErrBadArgs, with nothing beside.
func TestWrongCounts(t *testing.T) {
	takes := map[string]int{"get": 0, "set": 1, "cas": 2}
	for method, right := range takes {
		for n := range 2 * api.MaxArgs {
			l := slices.Repeat([]api.Value{whole(1)}, n)
			if n == right {
				if _, _, err := register.Do(whole(1), method, l); err != api.OK {
					t.Errorf("%s of %d: %v", method, n, err)
				}
				continue
			}
			wantError(t, "another count", whole(1), method, l, api.ErrBadArgs)
		}
	}
}

// P8.1, P8.2: no such method, other classes' ones too, is ErrBadArgs.
func TestNoSuchMethod(t *testing.T) {
	names := []string{"", " ", "Get", "GET", "get ", " get", "gets", "ge", "set*", "cas*", "cas\x00", "\x00", "\xff", "swap", "register", "register.get", strings.Repeat("get", 5000)}
	for _, class := range args.Classes() {
		names = append(names, args.Methods(class)...)
	}
	for _, method := range names {
		if _, own := calls()[method]; own {
			continue
		}
		for n := range 4 {
			wantError(t, "no such method", whole(1), method, slices.Repeat([]api.Value{text("a")}, n), api.ErrBadArgs)
		}
	}
}

// P8.3: through calls of all kinds, wrong ones among them, a register holds
// what was set last.
func TestHoldsWhatWasSetLast(t *testing.T) {
	state, _ := args.Start("register")
	last := api.Value{}
	step := func(method string, l []api.Value, held, answer api.Value) {
		t.Helper()
		wantDo(t, state, method, l, held, answer)
		state, _, _ = register.Do(state, method, l)
		last = held
	}
	for i, v := range samples() {
		swapped := list(text("swapped"), whole(int64(i)))
		step("get", nil, last, last)
		step("set", []api.Value{v}, v, last)
		wantError(t, "between", state, "set", []api.Value{long(api.MaxText + 1)}, api.ErrSize)
		wantError(t, "between", state, "none", nil, api.ErrBadArgs)
		step("get", nil, v, v)
		step("cas", []api.Value{text("another"), whole(5)}, v, whole(0))
		step("get", nil, v, v)
		step("cas", []api.Value{v, swapped}, swapped, whole(1))
		step("cas", []api.Value{v, text("too late")}, swapped, whole(0))
		if !register.Right(state) {
			t.Fatalf("%s isn't Right", value.Text(state))
		}
	}
}

// spoil changes all memory that hangs on v, the spare room included.
func spoil(v api.Value) {
	for i := range v.L {
		spoil(v.L[i])
	}
	for i := range v.L[:cap(v.L)] {
		v.L[:cap(v.L)][i] = text("spoilt")
	}
}

// shared gives a list that has one and the same list in it three times.
func shared() api.Value {
	inner := list(whole(1), nan(0xfff0000000000123))
	return list(inner, inner, list(inner))
}

// P8.1: the state then and what is answered are new memory: spoiling one of
// them, or a part of one, changes neither the other, nor what was handed in.
func TestAnswersAreNewMemory(t *testing.T) {
	inner := list(whole(1), nan(canonNaN))
	clean := list(inner, inner, list(inner))
	for _, c := range []struct {
		method       string
		l            []api.Value
		then, answer api.Value
	}{
		{"get", nil, clean, clean},
		{"set", []api.Value{shared()}, clean, clean},
		{"cas", []api.Value{shared(), shared()}, clean, whole(1)},
		{"cas", []api.Value{whole(1), shared()}, clean, whole(0)},
	} {
		state := shared()
		for turn := range 2 {
			then, answer, _ := register.Do(state, c.method, c.l)
			both := []api.Value{then, answer}
			spoil(both[turn])
			if rest := []api.Value{answer, then}[turn]; !exact(rest, []api.Value{c.answer, c.then}[turn]) {
				t.Errorf("%s: the state and the answer share memory: %s", c.method, value.Text(rest))
			}
			if !exact(state, shared()) || len(c.l) > 0 && !exact(c.l[len(c.l)-1], shared()) {
				t.Errorf("%s: what is answered shares memory with what was handed in", c.method)
			}
		}
		then, answer, _ := register.Do(state, c.method, c.l)
		for _, v := range []api.Value{then, answer} {
			if v.Kind == api.List {
				spoil(v.L[0])
				if !exact(v.L[1], inner) || !exact(v.L[2], list(inner)) {
					t.Errorf("%s: lists of what is answered share memory: %s", c.method, value.Text(v))
				}
			}
		}
	}
}

// P8.1: what is set from one list in all three places is kept three times.
func TestOneListInAllPlaces(t *testing.T) {
	v := shared()
	then, answer, err := register.Do(v, "cas", []api.Value{v, v})
	if err != api.OK || !exact(answer, whole(1)) {
		t.Fatalf("%s, %v", value.Text(answer), err)
	}
	spoil(then)
	if !exact(v, shared()) {
		t.Error("the state then shares memory with what was handed in")
	}
	then, answer, _ = register.Do(v, "set", []api.Value{v})
	spoil(then)
	if !exact(v, shared()) || !exact(answer, value.Clean(shared())) {
		t.Error("set of the state itself shares memory")
	}
}

// P8.1: what is handed in isn't changed, nor the spare room behind it.
func TestLeavesWhatIsHandedIn(t *testing.T) {
	values := samples()
	for _, f := range faulty() {
		if f.what != "a list that holds itself" { // it can't be held against another one
			values = append(values, f.v)
		}
	}
	for _, v := range values {
		given := func() []api.Value {
			behind := []api.Value{crowd(v), stray(9), nan(0xfff0000000000123)}
			return append([]api.Value{crowd(v), list(append([]api.Value{crowd(v)}, behind...)[:1]...)}, behind...)
		}
		state, l := crowd(v), given()
		for method, right := range calls() {
			for n := range 3 {
				register.Do(state, method, l[:n])
			}
			register.Do(state, method, right)
			register.Do(l[1], method, l[:len(right)])
		}
		register.Right(state)
		if !exact(state, crowd(v)) || !slices.EqualFunc(l, given(), exact) || !slices.EqualFunc(l[1].L[:4], given()[1].L[:4], exact) {
			t.Errorf("what hangs on %.40s was changed", value.Text(v))
		}
	}
}

// P8.1: what is answered hangs on the arguments alone, whoever else calls.
func TestManyAtOnce(t *testing.T) {
	var all sync.WaitGroup
	state, v := shared(), shared()
	for range 8 {
		all.Go(func() {
			for range 50 {
				wantDo(t, state, "cas", []api.Value{v, whole(1)}, whole(1), whole(1))
				wantDo(t, state, "set", []api.Value{v}, value.Clean(v), value.Clean(state))
				wantError(t, "at once", state, "none", []api.Value{v}, api.ErrBadArgs)
			}
		})
	}
	all.Wait()
}

// FuzzFloats holds cas of any bits against what IEEE 754 calls equal, and one
// NaN.
func FuzzFloats(f *testing.F) {
	edges := []uint64{0, 1 << 63, 1, canonNaN, 0xfff0000000000001, 0x7ff0000000000000, 0xfff0000000000000, 0x3ff0000000000000, math.MaxUint64}
	for _, a := range edges {
		for _, b := range edges {
			f.Add(a, b)
		}
	}
	f.Fuzz(func(t *testing.T, a, b uint64) {
		x, y := math.Float64frombits(a), math.Float64frombits(b)
		canon := func(bits uint64) api.Value {
			if v := nan(bits); !math.IsNaN(v.F) {
				return v
			}
			return nan(canonNaN)
		}
		then, answer := canon(a), whole(0)
		if x == y || math.IsNaN(x) && math.IsNaN(y) {
			then, answer = list(canon(b)), whole(1)
		}
		wantDo(t, nan(a), "cas", []api.Value{nan(b), list(nan(b))}, then, answer)
	})
}
