package orch_test

import (
	"slices"
	"strings"
	"testing"

	"choir/api"
	"choir/args"
	"choir/orch"
	"choir/value"
	"choir/wire"
)

// The example: Plan([["a", "get"]]): one step.
func TestExample(t *testing.T) {
	wantPlan(t, []api.Value{aStep("a", "get")}, api.Step{Group: "a", Method: "get"})
}

// P13.1: a step has its group's name, its method's, and the args behind them,
// each in its place, whatever they are.
func TestPlanOfOneStep(t *testing.T) {
	for _, v := range samples() {
		l := []api.Value{aStep("g", "m", v)}
		if value.Check(l[0]) != api.OK {
			wantNoPlan(t, "in one more list it is no value", l, api.ErrSize)
			continue
		}
		wantPlan(t, l, api.Step{Group: "g", Method: "m", Args: []api.Value{v}})
		wantPlan(t, []api.Value{aStep("g", "m", whole(1), v, text("m"))}, api.Step{Group: "g", Method: "m", Args: []api.Value{whole(1), v, text("m")}})
	}
	wantPlan(t, []api.Value{aStep("g", "m", samples()[:14]...)}, api.Step{Group: "g", Method: "m", Args: samples()[:14]})
}

// P13.1: names are args' names, up to MaxName bytes, of any bytes; a group or a
// method of that name needn't be.
func TestPlanNames(t *testing.T) {
	greatest := strings.Repeat("n", api.MaxName)
	for _, name := range []string{"a", "\x00", "\xff", " ", "groups", "orch", "run", "a.b", strings.Repeat("é", api.MaxName/2), greatest[1:], greatest} {
		wantPlan(t, []api.Value{aStep(name, "get")}, api.Step{Group: name, Method: "get"})
		wantPlan(t, []api.Value{aStep("a", name, text("a"))}, api.Step{Group: "a", Method: name, Args: []api.Value{text("a")}})
		wantPlan(t, []api.Value{aStep(name, name, text(name))}, api.Step{Group: name, Method: name, Args: []api.Value{text(name)}})
	}
}

// P13.1: each of l is a step, in its place, up to MaxSteps.
func TestPlanOfManySteps(t *testing.T) {
	var l []api.Value
	var want []api.Step
	for i := range int64(api.MaxSteps) {
		group, method := string("hgfedcba"[i]), string("mnmnmnmm"[i])
		l = append(l, aStep(group, method, slices.Repeat([]api.Value{whole(i)}, int(i%3))...))
		want = append(want, api.Step{Group: group, Method: method, Args: slices.Repeat([]api.Value{whole(i)}, int(i%3))})
		wantPlan(t, l, want...)
		wantPlan(t, slices.Repeat(l[i:], int(i)+1), slices.Repeat(want[i:], int(i)+1)...)
	}
	wantNoPlan(t, "MaxSteps + 1", append(l, aStep("a", "get")), api.ErrBadArgs)
}

// P13.1: a step has as many args as it may as a value, up to MaxItems with its
// names, and as great and as deep ones.
func TestPlanOfGreatSteps(t *testing.T) {
	for _, n := range []int{0, 1, api.MaxArgs - 1, api.MaxArgs, api.MaxArgs + 1, api.MaxItems - 2} {
		l := slices.Repeat([]api.Value{whole(1)}, n)
		wantPlan(t, []api.Value{aStep("a", "get", l...)}, api.Step{Group: "a", Method: "get", Args: l})
	}
	great := filled(api.MaxSize, text("a"), text("get"))
	wantPlan(t, []api.Value{great}, api.Step{Group: "a", Method: "get", Args: great.L[2:]})
	wantPlan(t, slices.Repeat([]api.Value{great}, api.MaxSteps), slices.Repeat([]api.Step{{Group: "a", Method: "get", Args: great.L[2:]}}, api.MaxSteps)...)
	deep := nested(api.MaxDepth-1, whole(1))
	wantPlan(t, []api.Value{aStep("a", "get", deep)}, api.Step{Group: "a", Method: "get", Args: []api.Value{deep}})
}

// P13.1: args are Clean'd: NaN is Canon's, noughts keep their signs.
func TestPlanCleans(t *testing.T) {
	odd, minus := nan(0xfff0000000000123), samples()[7]
	l := []api.Value{aStep("a", "put", odd, minus, list(odd, list(odd)))}
	wantPlan(t, l, api.Step{Group: "a", Method: "put", Args: []api.Value{nan(canonNaN), minus, list(nan(canonNaN), list(nan(canonNaN)))}})
	got, _ := orch.Plan([]api.Value{aStep("a", "put", api.Value{Kind: api.List, L: []api.Value{}})})
	if len(got) != 1 || len(got[0].Args) != 1 || got[0].Args[0].L != nil {
		t.Errorf("an empty list isn't as value.Clean makes it: %s", value.Text(asValue(got...)))
	}
}

// noSteps: values that are no steps.
func noSteps() map[string]api.Value {
	longer := strings.Repeat("n", api.MaxName+1)
	return map[string]api.Value{
		"nil":                       {},
		"an Int":                    whole(1),
		"a Float":                   float(1),
		"a text":                    text("a"),
		"a step in words":           text("a.get"),
		"nil with a step's items":   {L: aStep("a", "get").L},
		"a text with a step's":      {Kind: api.Text, S: "a", L: aStep("a", "get").L},
		"an empty list":             list(),
		"a group alone":             list(text("a")),
		"spare room":                {Kind: api.List, L: aStep("a", "get").L[:1]},
		"an empty group":            aStep("", "get"),
		"an empty method":           aStep("a", ""),
		"a group of MaxName + 1":    aStep(longer, "get"),
		"a method of MaxName + 1":   aStep("a", longer),
		"MaxName runes":             aStep(strings.Repeat("é", api.MaxName), "get"),
		"an Int for a group":        list(whole(1), text("get")),
		"an Int for a method":       list(text("a"), whole(1)),
		"an Int for both, crowded":  list(api.Value{Kind: api.Int, S: "a"}, api.Value{Kind: api.Int, S: "get"}),
		"nil for a group":           list(api.Value{}, text("a"), text("get")),
		"nil for a method":          list(text("a"), api.Value{}, text("get")),
		"a list for a group":        list(list(text("a")), text("get")),
		"a step in a list":          list(aStep("a", "get")),
		"steps in a list":           list(aStep("a", "get"), aStep("a", "get")),
		"args ahead of the method":  list(text("a"), list(whole(1)), text("get")),
		"the names behind the args": list(whole(1), text("a"), text("get")),
	}
}

// P13.1: Plan gives ErrBadArgs of no steps, of more than MaxSteps, of one that
// isn't one, wherever it stands.
func TestPlanOfNoSteps(t *testing.T) {
	wantNoPlan(t, "nothing", nil, api.ErrBadArgs)
	wantNoPlan(t, "an empty list", []api.Value{}, api.ErrBadArgs)
	right := aStep("a", "get")
	for _, n := range []int{api.MaxSteps + 1, 2 * api.MaxSteps, api.MaxItems, 1 << 16} {
		wantNoPlan(t, "too many", slices.Repeat([]api.Value{right}, n), api.ErrBadArgs)
	}
	for what, v := range noSteps() {
		wantNoPlan(t, what, []api.Value{v}, api.ErrBadArgs)
		for at := range api.MaxSteps {
			l := slices.Repeat([]api.Value{right}, api.MaxSteps)
			l[at] = v
			wantNoPlan(t, what, l, api.ErrBadArgs)
		}
	}
}

// P13.1: Plan gives value.Check's error of what is no value, ahead of what is
// no step; of the first one of several; too many are ErrBadArgs ahead of all.
func TestPlanOfNoValues(t *testing.T) {
	right, wrong := aStep("a", "get"), whole(1)
	for _, f := range faults() {
		for _, v := range []api.Value{f.v, aStep("a", "get", f.v), list(f.v, text("get")), list(text("a"), f.v)} {
			wantNoPlan(t, f.what, []api.Value{v}, f.err)
			wantNoPlan(t, f.what, []api.Value{right, v}, f.err)
			wantNoPlan(t, f.what, []api.Value{wrong, right, v}, f.err)
			wantNoPlan(t, f.what, []api.Value{v, wrong}, f.err)
			wantNoPlan(t, f.what, []api.Value{wrong, v, stray(9), long(api.MaxText + 1)}, f.err)
			wantNoPlan(t, f.what, slices.Repeat([]api.Value{v}, api.MaxSteps), f.err)
			wantNoPlan(t, f.what, slices.Repeat([]api.Value{v}, api.MaxSteps+1), api.ErrBadArgs)
		}
	}
	wantNoPlan(t, "MaxItems + 1", []api.Value{aStep("a", "get", make([]api.Value, api.MaxItems-1)...)}, api.ErrSize)
	wantNoPlan(t, "MaxDepth + 1", []api.Value{aStep("a", "get", nested(api.MaxDepth, whole(1)))}, api.ErrSize)
	wantNoPlan(t, "MaxSize + 1", []api.Value{filled(api.MaxSize+1, text("a"), text("get"))}, api.ErrSize)
}

// spoil changes all memory that hangs on l, the spare room included.
func spoil(l []api.Value) {
	room := l[:cap(l)]
	for i := range room {
		spoil(room[i].L)
		room[i] = text("spoilt")
	}
}

// P13.1: steps are new memory: spoiling the args of one of them changes neither
// another's, nor another arg of its own, nor what was handed in.
func TestStepsAreNewMemory(t *testing.T) {
	inner := list(whole(1), list(whole(2)))
	one := aStep("a", "put", inner, inner, list(inner))
	clean := api.Step{Group: "a", Method: "put", Args: value.Clone(one).L[2:]}
	l := []api.Value{one, one, aStep("a", "put", inner, inner, list(inner))}
	got, err := orch.Plan(l)
	if err != api.OK || len(got) != 3 {
		t.Fatalf("%d steps, %v", len(got), err)
	}
	spoil(got[0].Args[0].L)
	if !slices.EqualFunc(got[0].Args[1:], clean.Args[1:], exact) {
		t.Error("args of one step share memory")
	}
	for i := range got {
		spoil(got[i].Args)
		if !slices.EqualFunc(got[i+1:], []api.Step{clean, clean, clean}[i+1:], exactStep) {
			t.Errorf("step %d shares the memory of another", i)
		}
	}
	wantPlan(t, l, clean, clean, clean)
}

// P13.1: what is handed in is neither changed nor kept, nor the spare room
// behind it.
func TestPlanLeavesWhatIsHandedIn(t *testing.T) {
	given := func() []api.Value {
		l := []api.Value{crowd(aStep("a", "put", nan(0xfff0000000000123), list(whole(1)), whole(9), stray(9))), crowd(aStep("b", "get")), text("behind"), stray(9)}
		l[0].L = l[0].L[:4]
		return l
	}
	room := func(l []api.Value) []api.Value { return l[0].L[:6] }
	for n := range 4 {
		l := given()
		orch.Plan(l[:n])
		orch.Plan(l[:n:n])
		if !slices.EqualFunc(l, given(), exact) || !slices.EqualFunc(room(l), room(given()), exact) {
			t.Errorf("%d: what was handed in was changed", n)
		}
	}
	l := given()
	got, err := orch.Plan(l[:2])
	spoil(l)
	want := []api.Step{{Group: "a", Method: "put", Args: []api.Value{nan(canonNaN), list(whole(1))}}, {Group: "b", Method: "get"}}
	if err != api.OK || !slices.EqualFunc(got, want, exactStep) {
		t.Errorf("%s, %v: what was handed in was kept", value.Text(asValue(got...)), err)
	}
}

// FuzzPlan reads values, one behind another, and asks that Plan takes what
// args.Check takes, and that its steps are all that was told.
func FuzzPlan(f *testing.F) {
	for _, l := range [][]api.Value{
		{aStep("a", "get")},
		{aStep("a", "put", text("k"), list(whole(1), float(0.5))), aStep("b", "add", whole(1))},
		{aStep("a", ""), whole(1)},
		slices.Repeat([]api.Value{aStep("a", "get")}, api.MaxSteps+1),
	} {
		var b []byte
		for _, v := range l {
			b, _ = wire.Put(b, v)
		}
		f.Add(b)
	}
	f.Fuzz(func(t *testing.T, b []byte) {
		var l []api.Value
		for v, n, err := wire.Read(b); err == api.OK; v, n, err = wire.Read(b) {
			l, b = append(l, v), b[n:]
		}
		if err := args.Check("orch", "run", l); err != api.OK {
			wantNoPlan(t, "no run", l, err)
			return
		}
		steps, err := orch.Plan(l)
		if again := asValue(steps...); err != api.OK || !exact(again, list(l...)) {
			t.Errorf("Plan(%s): %s, %v", value.Text(list(l...)), value.Text(again), err)
		}
	})
}
