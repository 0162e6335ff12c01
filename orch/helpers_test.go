package orch_test

import (
	"math"
	"reflect"
	"slices"
	"strings"
	"testing"

	"choir/api"
	"choir/orch"
	"choir/value"
)

// canonNaN: the bits of the one NaN that is answered.
const canonNaN uint64 = 0x7ff8000000000001

func whole(i int64) api.Value { return api.Value{Kind: api.Int, I: i} }

func float(f float64) api.Value { return api.Value{Kind: api.Float, F: f} }

func nan(bits uint64) api.Value { return float(math.Float64frombits(bits)) }

func text(s string) api.Value { return api.Value{Kind: api.Text, S: s} }

func long(n int) api.Value { return text(strings.Repeat("x", n)) }

func list(l ...api.Value) api.Value { return api.Value{Kind: api.List, L: l} }

func times(n int, v api.Value) api.Value { return list(slices.Repeat([]api.Value{v}, n)...) }

func stray(kind int) api.Value { return api.Value{Kind: kind, I: 1, F: 1, S: "a"} }

// nested gives v in n lists.
func nested(n int, v api.Value) api.Value {
	for range n {
		v = list(v)
	}
	return v
}

// filled gives a list of size bytes on the wire, in texts behind what is ahead.
func filled(size int, ahead ...api.Value) api.Value {
	v := list(ahead...)
	for left := size - value.Size(v); left > 0; left -= min(left, 203) {
		v.L = append(v.L, long(min(left, 203)-3))
	}
	return v
}

// ring gives a list that holds itself.
func ring() api.Value {
	v := list(text("a"), text("b"), api.Value{})
	v.L[2] = v
	return v
}

// aStep gives a step as a value.
func aStep(group, method string, behind ...api.Value) api.Value {
	return list(append([]api.Value{text(group), text(method)}, behind...)...)
}

// crowd fills the fields that v's kind hasn't.
func crowd(v api.Value) api.Value {
	c := api.Value{Kind: v.Kind, I: 7, F: math.NaN(), S: "crowd", L: []api.Value{text("x"), stray(9)}}
	switch v.Kind {
	case api.Int:
		c.I = v.I
	case api.Float:
		c.F = v.F
	case api.Text:
		c.S = v.S
	case api.List:
		c.L = nil
		for _, item := range v.L {
			c.L = append(c.L, crowd(item))
		}
	}
	return c
}

// exact holds two values against each other field by field, floats by bits.
func exact(a, b api.Value) bool {
	return a.Kind == b.Kind && a.I == b.I && math.Float64bits(a.F) == math.Float64bits(b.F) && a.S == b.S && slices.EqualFunc(a.L, b.L, exact)
}

func exactStep(a, b api.Step) bool {
	return a.Group == b.Group && a.Method == b.Method && slices.EqualFunc(a.Args, b.Args, exact)
}

// asValue gives a list of the values that the steps are told by.
func asValue(steps ...api.Step) api.Value {
	v := list()
	for _, s := range steps {
		v.L = append(v.L, aStep(s.Group, s.Method, s.Args...))
	}
	return v
}

// samples: values that a step may have behind its names, or come to, each in
// its clean form.
func samples() []api.Value {
	return []api.Value{
		{}, whole(0), whole(1), whole(math.MinInt64), whole(math.MaxInt64),
		nan(canonNaN), float(0), float(math.Copysign(0, -1)), float(0.5), float(math.Inf(1)), float(math.Inf(-1)),
		text(""), text("a"), text("\xff\xfe"), long(api.MaxName + 1), long(api.MaxText - 1), long(api.MaxText),
		list(), list(api.Value{}), list(nan(canonNaN)), list(whole(1), text("a")), times(api.MaxItems-1, api.Value{}), times(api.MaxItems, api.Value{}),
		nested(api.MaxDepth-2, list()), nested(api.MaxDepth-1, whole(1)), filled(3000),
		list(text("error"), whole(int64(api.ErrNest))), aStep("a", "get"),
	}
}

// fault: what no value is, and value.Check's error of it.
type fault struct {
	what string
	v    api.Value
	err  api.Errno
}

func faults() []fault {
	return []fault{
		{"of no kind", stray(5), api.ErrBadArgs},
		{"of no kind, below", stray(-1), api.ErrBadArgs},
		{"of no kind, far off", stray(math.MinInt), api.ErrBadArgs},
		{"no kind in a list", list(whole(1), stray(9)), api.ErrBadArgs},
		{"a text of MaxText + 1", long(api.MaxText + 1), api.ErrSize},
		{"a very long text", long(1 << 20), api.ErrSize},
		{"a list of MaxItems + 1", times(api.MaxItems+1, api.Value{}), api.ErrSize},
		{"lists of MaxDepth + 1", nested(api.MaxDepth+1, whole(1)), api.ErrSize},
		{"a value of MaxSize + 1", filled(api.MaxSize + 1), api.ErrSize},
		{"a list that holds itself", ring(), api.ErrSize},
	}
}

// wantPlan asks for the steps, of what is handed in as it is, and of what holds
// more than its kinds have.
func wantPlan(t *testing.T, l []api.Value, want ...api.Step) {
	t.Helper()
	for _, given := range [][]api.Value{l, crowd(list(l...)).L} {
		if got, err := orch.Plan(given); err != api.OK || !slices.EqualFunc(got, want, exactStep) {
			t.Errorf("Plan(%.80s): %.80s, %v; wanted %.80s", value.Text(list(l...)), value.Text(asValue(got...)), err, value.Text(asValue(want...)))
		}
	}
}

// wantNoPlan asks for the error, and no steps beside it.
func wantNoPlan(t *testing.T, what string, l []api.Value, want api.Errno) {
	t.Helper()
	if got, err := orch.Plan(l); err != want || len(got) != 0 {
		t.Errorf("%s: Plan of %d: %d steps, %v; wanted %v alone", what, len(l), len(got), err, want)
	}
}

// wantDo asks for the state and the answer to the last bit, of what is handed
// in as it is, and of what holds more than its kinds have.
func wantDo(t *testing.T, was api.Value, method string, results []api.Value, then, answer api.Value) {
	t.Helper()
	crowded := crowd(list(results...)).L
	for i, given := range [][]api.Value{results, crowded, results, crowded} {
		state := was
		if i > 1 {
			state = crowd(was)
		}
		gotThen, gotAnswer, err := orch.Do(state, method, given)
		if err != api.OK || !exact(gotThen, then) || !exact(gotAnswer, answer) {
			t.Errorf("Do(%s, %q, %.80s): %s, %.80s, %v; wanted %s, %.80s",
				value.Text(was), method, value.Text(list(results...)), value.Text(gotThen), value.Text(gotAnswer), err, value.Text(then), value.Text(answer))
		}
		if err == api.OK && !orch.Right(gotThen) {
			t.Errorf("Do(%s, %q, ..): %s isn't Right", value.Text(was), method, value.Text(gotThen))
		}
	}
}

// wantError asks for the error, and nothing beside it.
func wantError(t *testing.T, what string, was api.Value, method string, results []api.Value, want api.Errno) {
	t.Helper()
	then, answer, err := orch.Do(was, method, results)
	if err != want || !reflect.DeepEqual(then, api.Value{}) || !reflect.DeepEqual(answer, api.Value{}) {
		t.Errorf("%s: Do(%.40q, %.40q, %d results): %.40q, %.40q, %v; wanted %v alone",
			what, value.Text(was), method, len(results), value.Text(then), value.Text(answer), err, want)
	}
}
