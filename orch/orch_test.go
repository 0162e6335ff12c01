package orch_test

import (
	"math"
	"slices"
	"strings"
	"testing"

	"choir/api"
	"choir/args"
	"choir/orch"
	"choir/value"
)

// counts: states that are Right, of which there is one more.
func counts() []int64 {
	return []int64{0, 1, 2, 41, math.MaxUint8, math.MaxInt32, math.MaxUint32, 1 << 53, math.MaxInt64 - 2, math.MaxInt64 - 1}
}

// wrongStates: what isn't Right.
func wrongStates() map[string]api.Value {
	return map[string]api.Value{
		"nil":                {},
		"nil with a count":   {I: 1},
		"-1":                 whole(-1),
		"below":              whole(-42),
		"far below":          whole(math.MinInt64 + 1),
		"the least Int":      whole(math.MinInt64),
		"a Float":            float(1),
		"a Float of 0":       float(0),
		"a Float with an I":  {Kind: api.Float, I: 1, F: 1},
		"a text":             text("1"),
		"a text with an I":   {Kind: api.Text, I: 1},
		"an empty list":      list(),
		"a list of an Int":   list(whole(1)),
		"a list with an I":   {Kind: api.List, I: 1},
		"of no kind":         stray(5),
		"of no kind, below":  stray(-1),
		"of no kind, far":    stray(math.MaxInt),
		"a text that's long": long(api.MaxText + 1),
		"a list in itself":   ring(),
	}
}

// P13.1: Right is an Int not below 0.
func TestRight(t *testing.T) {
	for _, n := range append(counts(), math.MaxInt64) {
		if !orch.Right(whole(n)) || !orch.Right(crowd(whole(n))) {
			t.Errorf("%d isn't Right", n)
		}
	}
	if begin, _ := args.Start("orch"); !orch.Right(begin) {
		t.Error("what an orch begins with isn't Right")
	}
	for what, state := range wrongStates() {
		if orch.Right(state) {
			t.Errorf("%s is Right", what)
		}
	}
}

// P13.2: a state that isn't Right is ErrBadArgs, whatever else is wrong.
func TestWrongState(t *testing.T) {
	for what, state := range wrongStates() {
		for _, method := range append(args.Methods("orch"), "none") {
			wantError(t, what, state, method, nil, api.ErrBadArgs)
			wantError(t, what, state, method, []api.Value{whole(1)}, api.ErrBadArgs)
			wantError(t, what, state, method, []api.Value{long(api.MaxText + 1)}, api.ErrBadArgs)
			wantError(t, what, state, method, slices.Repeat([]api.Value{ring()}, api.MaxItems+1), api.ErrBadArgs)
		}
	}
}

// P13.2: runs answers the Int, and leaves it; results are nothing to it.
func TestRuns(t *testing.T) {
	for _, n := range append(counts(), math.MaxInt64) {
		wantDo(t, whole(n), "runs", nil, whole(n), whole(n))
		wantDo(t, whole(n), "runs", []api.Value{}, whole(n), whole(n))
		wantDo(t, whole(n), "runs", samples(), whole(n), whole(n))
		for _, f := range faults()[:9] {
			wantDo(t, whole(n), "runs", []api.Value{f.v}, whole(n), whole(n))
		}
		if then, answer, err := orch.Do(whole(n), "runs", []api.Value{ring()}); err != api.OK || !exact(then, whole(n)) || !exact(answer, whole(n)) {
			t.Errorf("runs beside a ring: %s, %s, %v", value.Text(then), value.Text(answer), err)
		}
	}
}

// P13.2: run is one more, and answers a List of the results, in their order.
func TestRun(t *testing.T) {
	begin, _ := args.Start("orch")
	wantDo(t, begin, "run", []api.Value{text("a")}, whole(1), list(text("a")))
	for _, n := range counts() {
		wantDo(t, whole(n), "run", nil, whole(n+1), list())
		wantDo(t, whole(n), "run", []api.Value{}, whole(n+1), list())
		wantDo(t, whole(n), "run", samples()[:17], whole(n+1), list(samples()[:17]...))
		for _, v := range samples() {
			wantDo(t, whole(n), "run", []api.Value{v}, whole(n+1), list(v))
			wantDo(t, whole(n), "run", []api.Value{whole(2), v, whole(1)}, whole(n+1), list(whole(2), v, whole(1)))
		}
	}
	for n := range api.MaxItems + 1 {
		var results []api.Value
		for i := range n {
			results = append(results, whole(int64(n-i)))
		}
		wantDo(t, whole(5), "run", results, whole(6), list(results...))
	}
}

// P13.2: the answer has NaN in Canon's form, noughts with their signs, and
// empty lists as value.Clean makes them.
func TestRunCleans(t *testing.T) {
	odd, canon, minus := nan(0xfff0000000000123), nan(canonNaN), float(math.Copysign(0, -1))
	wantDo(t, whole(0), "run", []api.Value{odd, minus, list(odd, list(minus, odd))}, whole(1), list(canon, minus, list(canon, list(minus, canon))))
	_, answer, _ := orch.Do(whole(0), "run", []api.Value{})
	if answer.Kind != api.List || answer.L != nil {
		t.Errorf("no results: %+v", answer)
	}
}

// P13.2: run is ErrRange, if there is no greater Int, ahead of what results are.
func TestRunRange(t *testing.T) {
	for _, was := range []api.Value{whole(math.MaxInt64), crowd(whole(math.MaxInt64))} {
		wantError(t, "no results", was, "run", nil, api.ErrRange)
		wantError(t, "many results", was, "run", make([]api.Value, api.MaxItems+1), api.ErrRange)
		for _, v := range samples() {
			wantError(t, "results", was, "run", []api.Value{v}, api.ErrRange)
		}
		for _, f := range faults() {
			wantError(t, f.what, was, "run", []api.Value{f.v}, api.ErrRange)
		}
	}
	wantDo(t, whole(math.MaxInt64-1), "run", nil, whole(math.MaxInt64), list())
}

// P13.2: run has value.Check's error of the List of results: it is longer than
// MaxItems, deeper than MaxDepth, greater than MaxSize, or has what is no value.
func TestRunSize(t *testing.T) {
	for _, n := range counts() {
		wantError(t, "MaxItems + 1", whole(n), "run", make([]api.Value, api.MaxItems+1), api.ErrSize)
		wantError(t, "far too many", whole(n), "run", make([]api.Value, 1<<16), api.ErrSize)
		wantError(t, "MaxDepth", whole(n), "run", []api.Value{nested(api.MaxDepth, whole(1))}, api.ErrSize)
		wantError(t, "MaxDepth, empty", whole(n), "run", []api.Value{whole(1), nested(api.MaxDepth-1, list())}, api.ErrSize)
		for _, size := range []int{api.MaxSize - 1, api.MaxSize, api.MaxSize + 1} {
			wantError(t, "too great", whole(n), "run", []api.Value{filled(size)}, api.ErrSize)
			wantError(t, "too great in all", whole(n), "run", filled(size+2).L, api.ErrSize)
		}
		wantError(t, "8 great ones", whole(n), "run", slices.Repeat([]api.Value{filled(api.MaxSize / 8)}, 8), api.ErrSize)
		for _, f := range faults() {
			wantError(t, f.what, whole(n), "run", []api.Value{f.v}, f.err)
			wantError(t, f.what, crowd(whole(n)), "run", []api.Value{whole(1), f.v, text("b")}, f.err)
		}
	}
	wantDo(t, whole(0), "run", filled(api.MaxSize).L, whole(1), filled(api.MaxSize))
	wantDo(t, whole(0), "run", []api.Value{filled(api.MaxSize - 2)}, whole(1), list(filled(api.MaxSize-2)))
	wantDo(t, whole(0), "run", make([]api.Value, api.MaxItems), whole(1), times(api.MaxItems, api.Value{}))
	wantDo(t, whole(0), "run", []api.Value{nested(api.MaxDepth-1, whole(1))}, whole(1), nested(api.MaxDepth, whole(1)))
}

// P13.2: fail is ErrPanic, and nothing else, whatever it is told; none of the
// panic comes out.
func TestFail(t *testing.T) {
	for _, n := range append(counts(), math.MaxInt64) {
		was := crowd(whole(n))
		wantError(t, "no results", whole(n), "fail", nil, api.ErrPanic)
		wantError(t, "no results", was, "fail", []api.Value{}, api.ErrPanic)
		wantError(t, "results", whole(n), "fail", samples(), api.ErrPanic)
		for _, f := range faults() {
			wantError(t, f.what, was, "fail", []api.Value{f.v}, api.ErrPanic)
		}
		if !exact(was, crowd(whole(n))) {
			t.Errorf("fail changed %d", n)
		}
		wantDo(t, was, "runs", nil, whole(n), whole(n))
	}
}

// P13.2: fail's panic is caught within; one that goes on about the call is left
// to those whose it is.
func TestPanicsOfOthers(t *testing.T) {
	var told any
	func() {
		defer func() { told = recover() }()
		defer func() {
			wantError(t, "within a panic", whole(2), "fail", nil, api.ErrPanic)
			wantDo(t, whole(2), "run", nil, whole(3), list())
			wantError(t, "within a panic", whole(2), "none", nil, api.ErrBadArgs)
		}()
		panic("of others")
	}()
	if told != "of others" {
		t.Errorf("another's panic: %v", told)
	}
}

// P13.2: no such method, other classes' ones too, is ErrBadArgs, also of the
// greatest Int and of results that are too great.
func TestNoSuchMethod(t *testing.T) {
	names := []string{"", " ", "Run", "RUN", "run ", " run", "ru", "runss", "run*", "fail*", "Fail", "fail\x00", "\x00", "\xff", "plan", "step", "orch", "orch.run", strings.Repeat("run", 5000)}
	for _, class := range args.Classes() {
		names = append(names, args.Methods(class)...)
	}
	for _, method := range names {
		if slices.Contains([]string{"fail", "run", "runs"}, method) {
			continue
		}
		for _, n := range append(counts(), math.MaxInt64) {
			wantError(t, "no such method", whole(n), method, nil, api.ErrBadArgs)
			wantError(t, "no such method", whole(n), method, []api.Value{whole(1)}, api.ErrBadArgs)
			wantError(t, "no such method", whole(n), method, []api.Value{long(api.MaxText + 1)}, api.ErrBadArgs)
		}
	}
}

// P13.1, P13.2: the methods are those that args tells of, and run is the one
// that leaves another state.
func TestMethods(t *testing.T) {
	want := map[string]api.Errno{"fail": api.ErrPanic, "run": api.OK, "runs": api.OK}
	for _, method := range args.Methods("orch") {
		wanted, ok := want[method]
		then, _, err := orch.Do(whole(3), method, nil)
		if !ok || err != wanted {
			t.Errorf("%s: %v", method, err)
		}
		if err == api.OK && exact(then, whole(3)) == args.Writes("orch", method) {
			t.Errorf("%s: %s", method, value.Text(then))
		}
	}
}
