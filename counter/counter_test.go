package counter_test

import (
	"math"
	"math/big"
	"reflect"
	"slices"
	"strings"
	"sync"
	"testing"

	"choir/api"
	"choir/args"
	"choir/counter"
	"choir/value"
)

// canonNaN: the bits of the one NaN that is answered.
const canonNaN uint64 = 0x7ff8000000000001

func whole(i int64) api.Value { return api.Value{Kind: api.Int, I: i} }

func float(f float64) api.Value { return api.Value{Kind: api.Float, F: f} }

func nan(bits uint64) api.Value { return float(math.Float64frombits(bits)) }

func negativeZero() float64 { return math.Copysign(0, -1) }

func text(s string) api.Value { return api.Value{Kind: api.Text, S: s} }

func long(n int) api.Value { return text(strings.Repeat("x", n)) }

func list(l ...api.Value) api.Value { return api.Value{Kind: api.List, L: l} }

func stray(kind int) api.Value { return api.Value{Kind: kind, I: 1, F: 1, S: "a"} }

// state gives what a counter holds.
func state(count int64, total float64) api.Value { return list(whole(count), float(total)) }

// nested gives v in n lists.
func nested(n int, v api.Value) api.Value {
	for range n {
		v = list(v)
	}
	return v
}

// ring gives a list that holds itself.
func ring() api.Value {
	v := list(whole(1), api.Value{})
	v.L[1] = v
	return v
}

// crowd fills the fields that v's kind hasn't.
func crowd(v api.Value) api.Value {
	c := api.Value{Kind: v.Kind, I: 7, F: math.NaN(), S: "crowd", L: []api.Value{text("x"), stray(9)}}
	switch v.Kind {
	case api.Int:
		c.I = v.I
	case api.Float:
		c.F = v.F
	case api.Text:
		c.S = v.S
	case api.List:
		c.L = nil
		for _, item := range v.L {
			c.L = append(c.L, crowd(item))
		}
	}
	return c
}

// exact holds two values against each other field by field, floats by bits.
func exact(a, b api.Value) bool {
	return a.Kind == b.Kind && a.I == b.I && math.Float64bits(a.F) == math.Float64bits(b.F) && a.S == b.S && slices.EqualFunc(a.L, b.L, exact)
}

// canon gives f; of any NaN the one that is answered.
func canon(f float64) float64 {
	if math.IsNaN(f) {
		return math.Float64frombits(canonNaN)
	}
	return f
}

func counts() []int64 { return []int64{0, 1, 2, 41, 1 << 53, 1<<53 + 1, math.MaxInt64 - 1} }

func floats() []float64 {
	return []float64{
		0, negativeZero(), 1, -1, 0.1, 0.2, 0.5, -0.5, 1 << 53, 1<<53 + 2, -(1 << 53), 1e16, -1e16, 1e308, -1e308,
		math.SmallestNonzeroFloat64, -math.SmallestNonzeroFloat64, 0x1p-1022, math.MaxFloat64, -math.MaxFloat64, 0x1p970, 0x1p969,
		math.Nextafter(1, 2), math.Nextafter(1, 0), math.Inf(1), math.Inf(-1), math.Float64frombits(canonNaN),
		math.Float64frombits(0xfff0000000000123), math.Float64frombits(0x7ff0000000000001),
	}
}

func ints() []int64 {
	return []int64{0, 1, -1, 3, 1 << 53, 1<<53 + 1, 1<<53 + 3, -(1<<53 + 1), 1<<54 + 2, math.MaxInt64, math.MaxInt64 - 511, math.MaxInt64 - 512, math.MinInt64, math.MinInt64 + 1}
}

// wrongStates: what isn't Right.
func wrongStates() map[string]api.Value {
	return map[string]api.Value{
		"nil":                      {},
		"an Int":                   whole(1),
		"a Float":                  float(1),
		"a text":                   text("[0, 0.0]"),
		"of no kind":               {Kind: 5, L: []api.Value{whole(0), float(0)}},
		"of no kind, below":        {Kind: -1, L: []api.Value{whole(0), float(0)}},
		"an Int with a list":       {Kind: api.Int, L: []api.Value{whole(0), float(0)}},
		"a text with a list":       {Kind: api.Text, L: []api.Value{whole(0), float(0)}},
		"an empty list":            list(),
		"one item":                 list(whole(0)),
		"the Float alone":          list(float(0)),
		"three items":              list(whole(0), float(0), float(0)),
		"three items, a nil one":   list(whole(0), float(0), api.Value{}),
		"the other way about":      list(float(0), whole(0)),
		"two Ints":                 list(whole(0), whole(0)),
		"two Floats":               list(float(0), float(0)),
		"a nil count":              list(api.Value{}, float(0)),
		"a text's count":           list(text("0"), float(0)),
		"a nil total":              list(whole(0), api.Value{}),
		"a text's total":           list(whole(0), text("0.0")),
		"a list's total":           list(whole(0), list(float(0))),
		"a count of no kind":       list(stray(9), float(0)),
		"a total of no kind":       list(whole(0), stray(9)),
		"a count of -1":            list(whole(-1), float(0)),
		"the least count":          list(whole(math.MinInt64), float(0)),
		"a count of -1, crowded":   list(api.Value{Kind: api.Int, I: -1, F: 1}, float(0)),
		"in one more list":         list(state(0, 0)),
		"a list of 65":             list(slices.Repeat([]api.Value{whole(0)}, api.MaxItems+1)...),
		"too deep":                 nested(api.MaxDepth+1, state(0, 0)),
		"a longer text":            list(whole(0), float(0), long(api.MaxText+1)),
		"a list that holds itself": ring(),
	}
}

// wantDo asks for the state and the answer to the last bit.
func wantDo(t *testing.T, was api.Value, method string, l []api.Value, then, answer api.Value) {
	t.Helper()
	gotThen, gotAnswer, err := counter.Do(was, method, l)
	if err != api.OK || !exact(gotThen, then) || !exact(gotAnswer, answer) {
		t.Errorf("Do(%s, %q, %s): %s, %s, %v; wanted %s, %s",
			value.Text(was), method, value.Text(list(l...)), value.Text(gotThen), value.Text(gotAnswer), err, value.Text(then), value.Text(answer))
	}
}

// wantError asks for the error, and nothing beside it.
func wantError(t *testing.T, what string, was api.Value, method string, l []api.Value, want api.Errno) {
	t.Helper()
	then, answer, err := counter.Do(was, method, l)
	if err != want || !reflect.DeepEqual(then, api.Value{}) || !reflect.DeepEqual(answer, api.Value{}) {
		t.Errorf("%s: Do(.., %.40q, %d args): %.40q, %.40q, %v; wanted %v alone", what, method, len(l), value.Text(then), value.Text(answer), err, want)
	}
}

// P9.1: Right is a List of an Int that isn't below 0 and a Float, whatever it is.
func TestRight(t *testing.T) {
	for _, f := range floats() {
		for _, n := range append(counts(), math.MaxInt64) {
			if s := state(n, f); !counter.Right(s) || !counter.Right(crowd(s)) {
				t.Errorf("%s isn't Right", value.Text(s))
			}
		}
	}
	if begin, _ := args.Start("counter"); !counter.Right(begin) {
		t.Error("what a counter begins with isn't Right")
	}
	for what, s := range wrongStates() {
		if counter.Right(s) {
			t.Errorf("%s is Right", what)
		}
	}
}

// P9.1: add(n) holds one more and the sum, and answers the sum: IEEE's own of
// Floats, with NaN in its one form.
func TestAddFloats(t *testing.T) {
	for _, total := range floats() {
		for _, n := range floats() {
			sum := canon(total + n)
			for _, count := range counts() {
				wantDo(t, state(count, total), "add", []api.Value{float(n)}, state(count+1, sum), float(sum))
			}
			wantDo(t, crowd(state(3, total)), "add", []api.Value{crowd(float(n))}, state(4, sum), float(sum))
		}
	}
}

// P9.1: an Int is added as the Float nearest to it, ties to even: held against
// exact numbers.
func TestAddInts(t *testing.T) {
	for _, i := range ints() {
		nearest, _ := new(big.Float).SetPrec(53).SetMode(big.ToNearestEven).SetInt64(i).Float64()
		for _, total := range floats() {
			sum := canon(total + nearest)
			wantDo(t, state(0, total), "add", []api.Value{whole(i)}, state(1, sum), float(sum))
			wantDo(t, crowd(state(0, total)), "add", []api.Value{crowd(whole(i))}, state(1, sum), float(sum))
		}
	}
}

// P9.1: the edges of sums, written out.
func TestAddEdges(t *testing.T) {
	inf, greatest, least := math.Inf(1), math.MaxFloat64, math.SmallestNonzeroFloat64
	odd := math.Float64frombits(0xfff0000000000123)
	one := math.Float64frombits(canonNaN)
	for _, c := range []struct {
		what  string
		total float64
		n     api.Value
		sum   float64
	}{
		{"the document's example", 0, float(0.5), 0.5},
		{"an Int", 0.5, whole(2), 2.5},
		{"below 0", 0.5, whole(-2), -1.5},
		{"to 0", 1, float(-1), 0},
		{"to 0 from below", -1, whole(1), 0},
		{"0.0 and -0.0", 0, float(negativeZero()), 0},
		{"-0.0 and 0.0", negativeZero(), float(0), 0},
		{"-0.0 twice", negativeZero(), float(negativeZero()), negativeZero()},
		{"-0.0 and Int 0", negativeZero(), whole(0), 0},
		{"a tenth and two", 0.1, float(0.2), 0.30000000000000004},
		{"a tie to even", 1 << 53, float(1), 1 << 53},
		{"a tie to even, up", 1<<53 + 2, float(1), 1<<53 + 4},
		{"an Int that is no Float", 0, whole(1<<53 + 1), 1 << 53},
		{"an Int that is no Float, up", 0, whole(1<<53 + 3), 1<<53 + 4},
		{"the greatest Int", 0, whole(math.MaxInt64), 1 << 63},
		{"the least Int", 0, whole(math.MinInt64), -(1 << 63)},
		{"the least float", 0, float(least), least},
		{"the least float twice", least, float(least), 2 * least},
		{"the least float away", least, float(-least), 0},
		{"below the least normal", 0x1p-1022, float(-least), 0x1p-1022 - least},
		{"over the greatest", greatest, float(greatest), inf},
		{"under the least", -greatest, float(-greatest), -inf},
		{"half a step over the greatest", greatest, float(0x1p970), inf},
		{"not half a step over", greatest, float(math.Nextafter(0x1p970, 0)), greatest},
		{"an infinity", 1, float(inf), inf},
		{"an infinity stays", inf, whole(math.MinInt64), inf},
		{"an infinity twice", -inf, float(-inf), -inf},
		{"both infinities", inf, float(-inf), one},
		{"both infinities, the other way", -inf, float(inf), one},
		{"NaN", 1, float(odd), one},
		{"NaN stays", odd, whole(1), one},
		{"NaN stays beside an infinity", odd, float(inf), one},
		{"NaN twice", one, float(odd), one},
	} {
		then, answer, err := counter.Do(state(6, c.total), "add", []api.Value{c.n})
		if err != api.OK || !exact(then, state(7, c.sum)) || !exact(answer, float(c.sum)) {
			t.Errorf("%s: %s, %s, %v", c.what, value.Text(then), value.Text(answer), err)
		}
	}
}

// P9.1: count answers the Int, total the Float; the state stays. reset holds
// [0, 0.0], and answers the old Float.
func TestCountTotalReset(t *testing.T) {
	begin, _ := args.Start("counter")
	for _, n := range append(counts(), math.MaxInt64) {
		for _, f := range floats() {
			clean := state(n, canon(f))
			for _, was := range []api.Value{state(n, f), crowd(state(n, f))} {
				for _, none := range [][]api.Value{nil, {}} {
					wantDo(t, was, "count", none, clean, whole(n))
					wantDo(t, was, "total", none, clean, float(canon(f)))
					wantDo(t, was, "reset", none, state(0, 0), float(canon(f)))
					wantDo(t, was, "reset", none, begin, float(canon(f)))
				}
			}
		}
	}
}

// P9.1, P9.2: add beside the greatest count is ErrRange alone; one ahead it
// isn't; what args.Check says comes ahead of it.
func TestGreatestCount(t *testing.T) {
	full := state(math.MaxInt64, 2)
	for _, n := range []api.Value{whole(0), whole(1), whole(-1), float(0.5), float(math.Inf(-1)), nan(canonNaN)} {
		wantError(t, "the greatest count", full, "add", []api.Value{n}, api.ErrRange)
		wantError(t, "the greatest count", crowd(full), "add", []api.Value{crowd(n)}, api.ErrRange)
		wantError(t, "the greatest count", state(math.MaxInt64, math.NaN()), "add", []api.Value{n}, api.ErrRange)
	}
	wantDo(t, state(math.MaxInt64-1, 2), "add", []api.Value{whole(1)}, state(math.MaxInt64, 3), float(3))
	wantDo(t, full, "count", nil, full, whole(math.MaxInt64))
	wantDo(t, full, "total", nil, full, float(2))
	wantDo(t, full, "reset", nil, state(0, 0), float(2))
	wantError(t, "no number beside the greatest count", full, "add", []api.Value{text("1")}, api.ErrBadArgs)
	wantError(t, "no argument beside the greatest count", full, "add", nil, api.ErrBadArgs)
	wantError(t, "a longer text beside the greatest count", full, "add", []api.Value{long(api.MaxText + 1)}, api.ErrSize)
}

// calls: right calls of each method.
func calls() map[string][]api.Value {
	return map[string][]api.Value{"add": {whole(1)}, "count": nil, "reset": nil, "total": nil}
}

// P9.1, P9.2: a state that isn't Right is ErrBadArgs, whatever else is wrong.
func TestWrongState(t *testing.T) {
	for what, s := range wrongStates() {
		for method, l := range calls() {
			wantError(t, what, s, method, l, api.ErrBadArgs)
		}
		wantError(t, what, s, "add", []api.Value{long(api.MaxText + 1)}, api.ErrBadArgs)
		wantError(t, what, s, "none", nil, api.ErrBadArgs)
	}
	wantError(t, "one below 0 beside ErrSize", state(-1, 0), "add", []api.Value{long(api.MaxText + 1)}, api.ErrBadArgs)
}

// P9.1, P9.2: args.Check's error of an argument: value.Check's, then ErrBadArgs
// of what is no number.
func TestWrongArguments(t *testing.T) {
	for _, c := range []struct {
		what string
		v    api.Value
		want api.Errno
	}{
		{"nil", api.Value{}, api.ErrBadArgs},
		{"a text", text("1"), api.ErrBadArgs},
		{"an empty text", text(""), api.ErrBadArgs},
		{"a list", list(whole(1)), api.ErrBadArgs},
		{"an empty list", list(), api.ErrBadArgs},
		{"of no kind", stray(5), api.ErrBadArgs},
		{"of no kind, below", stray(-1), api.ErrBadArgs},
		{"no kind in a list", list(stray(9)), api.ErrBadArgs},
		{"a text of MaxText", long(api.MaxText), api.ErrBadArgs},
		{"a text of MaxText + 1", long(api.MaxText + 1), api.ErrSize},
		{"a list of MaxItems + 1", list(slices.Repeat([]api.Value{{}}, api.MaxItems+1)...), api.ErrSize},
		{"lists of MaxDepth + 1", nested(api.MaxDepth+1, whole(1)), api.ErrSize},
		{"a list that holds itself", ring(), api.ErrSize},
	} {
		wantError(t, c.what, state(1, 1), "add", []api.Value{c.v}, c.want)
		for _, method := range []string{"count", "reset", "total"} {
			wantError(t, c.what, state(1, 1), method, []api.Value{c.v}, api.ErrBadArgs)
		}
	}
}

// P9.1, P9.2: another number of arguments is ErrBadArgs, with nothing beside.
func TestWrongCounts(t *testing.T) {
	for method, right := range calls() {
		for n := range 2 * api.MaxArgs {
			if n != len(right) {
				wantError(t, "another count", state(1, 1), method, slices.Repeat([]api.Value{whole(1)}, n), api.ErrBadArgs)
			}
		}
	}
}

// P9.1, P9.2: no such method, other classes' ones too, is ErrBadArgs.
func TestNoSuchMethod(t *testing.T) {
	names := []string{"", " ", "Add", "ADD", "add ", " add", "adds", "ad", "add*", "reset*", "add\x00", "\x00", "\xff", "sub", "sum", "counter", "counter.add", strings.Repeat("add", 5000)}
	for _, class := range args.Classes() {
		names = append(names, args.Methods(class)...)
	}
	for _, method := range names {
		if _, own := calls()[method]; own {
			continue
		}
		for n := range 4 {
			wantError(t, "no such method", state(1, 1), method, slices.Repeat([]api.Value{whole(1)}, n), api.ErrBadArgs)
		}
	}
}

// play does the adds one by one, from the beginning, and gives the state.
func play(t *testing.T, l []api.Value) api.Value {
	t.Helper()
	now, _ := args.Start("counter")
	for _, n := range l {
		then, _, err := counter.Do(now, "add", []api.Value{n})
		if err != api.OK || !counter.Right(then) {
			t.Fatalf("add(%s) to %s: %s, %v", value.Text(n), value.Text(now), value.Text(then), err)
		}
		now = then
	}
	return now
}

// P9.3: sums are reckoned in the order of the calls: from the left, rounded at
// each one, not sorted, not exact, not with what was lost kept in mind.
func TestOrderOfSums(t *testing.T) {
	tenths := slices.Repeat([]api.Value{float(0.1)}, 10)
	for _, c := range []struct {
		l   []api.Value
		sum float64
	}{
		{[]api.Value{float(1e16), whole(1), float(-1e16)}, 0},
		{[]api.Value{float(1e16), float(-1e16), whole(1)}, 1},
		{[]api.Value{whole(1), float(1e16), float(-1e16)}, 0},
		{[]api.Value{whole(1), whole(1), float(1e16), float(-1e16)}, 2},
		{[]api.Value{float(1e308), float(1e308), float(-1e308)}, math.Inf(1)},
		{[]api.Value{float(1e308), float(-1e308), float(1e308)}, 1e308},
		{[]api.Value{whole(math.MaxInt64), whole(math.MinInt64), whole(1)}, 1},
		{[]api.Value{float(negativeZero())}, 0},
		{tenths, 0.9999999999999999},
		{nil, 0},
	} {
		if now := play(t, c.l); !exact(now, state(int64(len(c.l)), c.sum)) {
			t.Errorf("%s: %s; wanted %v", value.Text(list(c.l...)), value.Text(now), c.sum)
		}
	}
}

// P9.2: NaN stays NaN, whatever is added, until the counter is reset.
func TestNaNStays(t *testing.T) {
	l := []api.Value{nan(0xfff0000000000123)}
	for _, f := range floats() {
		l = append(l, float(f), whole(3))
	}
	for n := 1; n <= len(l); n++ {
		if now := play(t, l[:n]); !exact(now, list(whole(int64(n)), nan(canonNaN))) {
			t.Errorf("behind %d: %s", n, value.Text(now))
		}
	}
	reset, answer, err := counter.Do(play(t, l), "reset", nil)
	if err != api.OK || !exact(answer, nan(canonNaN)) {
		t.Errorf("reset of NaN: %s, %v", value.Text(answer), err)
	}
	wantDo(t, reset, "add", []api.Value{whole(2)}, state(1, 2), float(2))
}

// spoil changes all memory that hangs on v, the spare room included.
func spoil(v api.Value) {
	for i := range v.L[:cap(v.L)] {
		v.L[:cap(v.L)][i] = text("spoilt")
	}
}

// P9.1: the state then is new memory: spoiling it changes neither the one that
// was handed in, nor what is answered of it again.
func TestAnswersAreNewMemory(t *testing.T) {
	for method, l := range calls() {
		was := state(3, 0.5)
		then, answer, _ := counter.Do(was, method, l)
		wanted, kept := value.Clone(then), answer
		spoil(then)
		if !exact(was, state(3, 0.5)) || !exact(answer, kept) || answer.L != nil {
			t.Errorf("%s: the state then shares memory", method)
		}
		wantDo(t, was, method, l, wanted, answer)
	}
}

// P9.1: what is handed in isn't changed, nor the spare room behind it.
func TestLeavesWhatIsHandedIn(t *testing.T) {
	given := func(v api.Value) []api.Value {
		return []api.Value{crowd(v), text("behind"), stray(9), nan(0xfff0000000000123)}
	}
	for _, f := range floats() {
		was, l := given(whole(3)), given(float(f))
		was[1] = crowd(float(f))
		behind := slices.Clone(was)
		for method, right := range calls() {
			counter.Do(list(was[:2]...), method, l[:len(right)])
			counter.Do(api.Value{Kind: api.List, L: was[:2:4]}, method, l[:1])
			counter.Do(api.Value{Kind: api.List, L: was[:1]}, method, l[:2])
		}
		counter.Right(api.Value{Kind: api.List, L: was[:2]})
		if !slices.EqualFunc(was, behind, exact) || !slices.EqualFunc(l, given(float(f)), exact) {
			t.Errorf("what was handed in beside %v was changed", f)
		}
	}
}

// P9.1: what is answered hangs on the arguments alone, whoever else calls.
func TestManyAtOnce(t *testing.T) {
	var all sync.WaitGroup
	was, n := state(3, 0.5), []api.Value{float(0.25)}
	for range 8 {
		all.Go(func() {
			for range 50 {
				wantDo(t, was, "add", n, state(4, 0.75), float(0.75))
				wantDo(t, was, "reset", nil, state(0, 0), float(0.5))
				wantError(t, "at once", was, "none", n, api.ErrBadArgs)
			}
		})
	}
	all.Wait()
}

// FuzzAdd holds add of any bits against IEEE 754's sum, and any count against
// its edges.
func FuzzAdd(f *testing.F) {
	for _, a := range floats() {
		f.Add(int64(1), math.Float64bits(a), math.Float64bits(-a), int64(math.MaxInt64))
		f.Add(int64(math.MaxInt64), math.Float64bits(a), uint64(1), int64(1))
		f.Add(int64(-1), math.Float64bits(a), uint64(1)<<63, int64(1<<53+1))
	}
	f.Fuzz(func(t *testing.T, count int64, a, b uint64, i int64) {
		was := list(whole(count), nan(a))
		for _, n := range []api.Value{nan(b), whole(i)} {
			switch {
			case count < 0:
				wantError(t, "below 0", was, "add", []api.Value{n}, api.ErrBadArgs)
			case count == math.MaxInt64:
				wantError(t, "the greatest", was, "add", []api.Value{n}, api.ErrRange)
			default:
				sum := canon(was.L[1].F + n.F)
				if n.Kind == api.Int {
					sum = canon(was.L[1].F + float64(n.I))
				}
				wantDo(t, was, "add", []api.Value{n}, state(count+1, sum), float(sum))
			}
		}
	})
}
