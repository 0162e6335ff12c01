package object_test

import (
	"math"
	"slices"
	"sync"
	"testing"

	"choir/api"
	chk "choir/args"
	"choir/counter"
	"choir/ledger"
	"choir/object"
	"choir/orch"
	"choir/queue"
	"choir/register"
	"choir/table"
	"choir/value"
)

// act: a call, the state behind it, its answer; or, beside an error, what is
// left of these.
type act struct {
	method       string
	l            []api.Value
	then, answer api.Value
	err          api.Errno
}

// play does the calls one by one on an object that begins as its class says.
func play(t *testing.T, class string, acts ...act) {
	t.Helper()
	now, _ := chk.Start(class)
	for _, a := range acts {
		if a.err != api.OK {
			wantError(t, class, now, a.method, a.l, a.err)
			continue
		}
		wantDo(t, class, now, a.method, a.l, a.then, a.answer)
		now = a.then
	}
}

// P15.1: Do is the class's: each method, each of the class's errors.
func TestCounter(t *testing.T) {
	one, two := list(whole(1), float(0.5)), list(whole(2), float(2.5))
	play(t, "counter",
		act{"add", args(float(0.5)), one, float(0.5), api.OK},
		act{"add", args(whole(2)), two, float(2.5), api.OK},
		act{"count", nil, two, whole(2), api.OK},
		act{"total", nil, two, float(2.5), api.OK},
		act{"reset", nil, list(whole(0), float(0)), float(2.5), api.OK},
		act{"add", args(nan(canonNaN)), list(whole(1), nan(canonNaN)), nan(canonNaN), api.OK},
		act{"add", args(text("1")), api.Value{}, api.Value{}, api.ErrBadArgs},
		act{"get", nil, api.Value{}, api.Value{}, api.ErrBadArgs},
		act{"add", args(long(300)), api.Value{}, api.Value{}, api.ErrSize},
	)
	wantError(t, "counter", list(whole(math.MaxInt64), float(1)), "add", args(whole(1)), api.ErrRange)
}

func TestLedger(t *testing.T) {
	a, ab := list(has("a", float(0))), list(has("a", float(0)), has("b", float(0)))
	full, moved := list(has("a", float(2)), has("b", float(0))), list(has("a", float(0.5)), has("b", float(1.5)))
	play(t, "ledger",
		act{"open", args(text("a")), a, api.Value{}, api.OK},
		act{"open", args(text("a")), api.Value{}, api.Value{}, api.ErrExists},
		act{"open", args(text("b")), ab, api.Value{}, api.OK},
		act{"deposit", args(text("a"), whole(2)), full, float(2), api.OK},
		act{"deposit", args(text("a"), whole(0)), api.Value{}, api.Value{}, api.ErrRange},
		act{"transfer", args(text("a"), text("b"), float(1.5)), moved, float(0.5), api.OK},
		act{"transfer", args(text("a"), text("b"), float(1.5)), api.Value{}, api.Value{}, api.ErrFunds},
		act{"balance", args(text("b")), moved, float(1.5), api.OK},
		act{"balance", args(text("c")), api.Value{}, api.Value{}, api.ErrBadRef},
		act{"names", nil, moved, list(text("a"), text("b")), api.OK},
		act{"total", nil, moved, float(2), api.OK},
		act{"close", args(text("a")), api.Value{}, api.Value{}, api.ErrFunds},
		act{"get", args(text("a")), api.Value{}, api.Value{}, api.ErrBadArgs},
	)
	wantError(t, "ledger", numbered(api.MaxKeys, float(0)), "open", args(text("z")), api.ErrFull)
	wantDo(t, "ledger", ab, "close", args(text("b")), a, api.Value{})
}

func TestQueue(t *testing.T) {
	one, two := list(whole(7)), list(whole(7), list(text("x")))
	play(t, "queue",
		act{"pop", nil, list(), api.Value{}, api.OK},
		act{"push", args(whole(7)), one, whole(1), api.OK},
		act{"push", args(list(text("x"))), two, whole(2), api.OK},
		act{"len", nil, two, whole(2), api.OK},
		act{"peek", nil, two, whole(7), api.OK},
		act{"nth", args(whole(1)), two, list(text("x")), api.OK},
		act{"nth", args(whole(2)), api.Value{}, api.Value{}, api.ErrPanic},
		act{"nth", args(float(0)), api.Value{}, api.Value{}, api.ErrBadArgs},
		act{"pop", nil, list(list(text("x"))), whole(7), api.OK},
		act{"push", args(filled(api.MaxSize - 8)), list(list(text("x")), filled(api.MaxSize-8)), whole(2), api.OK},
		act{"push", args(whole(1)), api.Value{}, api.Value{}, api.ErrFull},
	)
	wantError(t, "queue", times(api.MaxKeys, whole(1)), "push", args(whole(1)), api.ErrFull)
}

func TestRegister(t *testing.T) {
	play(t, "register",
		act{"get", nil, api.Value{}, api.Value{}, api.OK},
		act{"set", args(text("x")), text("x"), api.Value{}, api.OK},
		act{"cas", args(text("y"), whole(1)), text("x"), whole(0), api.OK},
		act{"cas", args(text("x"), nan(canonNaN)), nan(canonNaN), whole(1), api.OK},
		act{"cas", args(nan(canonNaN), minusNought()), minusNought(), whole(1), api.OK},
		act{"get", nil, minusNought(), minusNought(), api.OK},
		act{"cas", args(whole(0), whole(1)), minusNought(), whole(0), api.OK},
		act{"cas", args(float(0), list(whole(1))), list(whole(1)), whole(1), api.OK},
		act{"set", nil, api.Value{}, api.Value{}, api.ErrBadArgs},
		act{"set", args(filled(api.MaxSize + 1)), api.Value{}, api.Value{}, api.ErrSize},
		act{"set", args(filled(api.MaxSize)), filled(api.MaxSize), list(whole(1)), api.OK},
	)
}

func TestTable(t *testing.T) {
	a, ab := list(has("a", whole(1))), list(has("a", whole(1)), has("b", float(2)))
	play(t, "table",
		act{"put", args(text("a"), whole(1)), a, api.Value{}, api.OK},
		act{"put", args(text("b"), float(2)), ab, api.Value{}, api.OK},
		act{"keys", nil, ab, list(text("a"), text("b")), api.OK},
		act{"size", nil, ab, whole(2), api.OK},
		act{"get", args(text("b")), ab, float(2), api.OK},
		act{"get", args(text("c")), ab, api.Value{}, api.OK},
		act{"put", args(text("a"), text("new")), list(has("a", text("new")), has("b", float(2))), whole(1), api.OK},
		act{"del", args(text("a")), list(has("b", float(2))), text("new"), api.OK},
		act{"put", args(text(""), whole(1)), api.Value{}, api.Value{}, api.ErrBadArgs},
		act{"open", args(text("a")), api.Value{}, api.Value{}, api.ErrBadArgs},
	)
	wantError(t, "table", numbered(api.MaxKeys, whole(0)), "put", args(text("z"), whole(1)), api.ErrFull)
}

// P15.1: of orch runs and fail alone are done; a run has ErrNest, whatever its
// steps are, and even where its count could not rise.
func TestOrch(t *testing.T) {
	play(t, "orch",
		act{"runs", nil, whole(0), whole(0), api.OK},
		act{"fail", nil, api.Value{}, api.Value{}, api.ErrPanic},
		act{"run", args(aStep("a", "get")), api.Value{}, api.Value{}, api.ErrNest},
	)
	for _, now := range rights("orch") {
		wantDo(t, "orch", now, "runs", nil, now, now)
		wantError(t, "orch", now, "fail", nil, api.ErrPanic)
		wantError(t, "orch", now, "run", args(aStep("groups", "create", text("a"))), api.ErrNest)
		wantError(t, "orch", now, "run", slices.Repeat(args(aStep("a", "run")), api.MaxSteps), api.ErrNest)
		wantError(t, "orch", now, "run", args(aStep("a", "push", filled(2000)), aStep("a", "pop")), api.ErrNest)
	}
}

// P15.1: an orch that isn't Right comes ahead of all, then args.Check's error,
// then ErrNest.
func TestOrchOrderOfErrors(t *testing.T) {
	good, tooGreat := aStep("a", "get"), args(long(api.MaxText+1))
	for _, now := range wrongs("orch") {
		for _, method := range []string{"run", "runs", "fail", "none", ""} {
			for _, l := range [][]api.Value{nil, args(good), tooGreat, args(stray(9))} {
				wantError(t, "orch", now, method, l, api.ErrBadArgs)
			}
		}
	}
	for _, x := range []struct {
		method string
		l      []api.Value
		err    api.Errno
	}{
		{"run", nil, api.ErrBadArgs},
		{"run", args(whole(1)), api.ErrBadArgs},
		{"run", args(good, list(text("a"))), api.ErrBadArgs},
		{"run", args(aStep("", "get")), api.ErrBadArgs},
		{"run", slices.Repeat(args(good), api.MaxSteps+1), api.ErrBadArgs},
		{"run", tooGreat, api.ErrSize},
		{"run", args(whole(1), long(api.MaxText+1)), api.ErrSize},
		{"run", args(aStep("a", "push", filled(api.MaxSize))), api.ErrSize},
		{"run", args(good, stray(9)), api.ErrBadArgs},
		{"run", args(ring()), api.ErrSize},
		{"runs", args(good), api.ErrBadArgs},
		{"runs", tooGreat, api.ErrBadArgs},
		{"fail", args(good), api.ErrBadArgs},
		{"fail", tooGreat, api.ErrBadArgs},
		{"Run", args(good), api.ErrBadArgs},
		{"ru", nil, api.ErrBadArgs},
		{"", nil, api.ErrBadArgs},
		{"get", nil, api.ErrBadArgs},
	} {
		wantError(t, "orch", whole(3), x.method, x.l, x.err)
	}
}

// P15.1: of no class ErrBadArgs, whatever else is wrong.
func TestDoOfNoClass(t *testing.T) {
	for _, no := range noClasses() {
		for _, class := range classes() {
			for _, now := range rights(class) {
				for _, method := range chk.Methods(class) {
					wantError(t, no, now, method, nil, api.ErrBadArgs)
					wantError(t, no, now, method, args(whole(1)), api.ErrBadArgs)
				}
			}
		}
		wantError(t, no, api.Value{}, "", nil, api.ErrBadArgs)
		wantError(t, no, api.Value{}, "set", args(long(api.MaxText+1)), api.ErrBadArgs)
		wantError(t, no, whole(0), "run", args(aStep("a", "get")), api.ErrBadArgs)
		wantError(t, no, ring(), "get", args(ring()), api.ErrBadArgs)
	}
}

// doing: what a class's Do is like.
type doing func(api.Value, string, []api.Value) (api.Value, api.Value, api.Errno)

func theirs() map[string]doing {
	return map[string]doing{"counter": counter.Do, "ledger": ledger.Do, "orch": orchAlone, "queue": queue.Do, "register": register.Do, "table": table.Do}
}

// orchAlone says of orch what P15.1 says.
func orchAlone(state api.Value, method string, l []api.Value) (api.Value, api.Value, api.Errno) {
	err := chk.Check("orch", method, l)
	switch {
	case !orch.Right(state):
		return api.Value{}, api.Value{}, api.ErrBadArgs
	case err != api.OK:
		return api.Value{}, api.Value{}, err
	case method == "run":
		return api.Value{}, api.Value{}, api.ErrNest
	}
	return orch.Do(state, method, nil)
}

// calls: lists of arguments, of all that methods take, and of what none takes.
func calls() [][]api.Value {
	k, step := text("k"), aStep("a", "get")
	all := [][]api.Value{
		nil, {}, {whole(1)}, {whole(-1)}, {float(0.5)}, {nan(canonNaN)}, {{}}, {k}, {text("")}, {long(api.MaxName)}, {long(api.MaxName + 1)}, {list()},
		{k, whole(1)}, {k, float(0.5)}, {k, list(k)}, {k, k}, {{}, {}}, {k, text("j"), whole(1)}, {text("k00"), text("k01"), float(0.5)},
		{text("a")}, {text("a"), whole(1)}, {text("a"), text("b"), float(0.25)}, {filled(3000)}, {k, filled(3000)},
		{step}, slices.Repeat(args(step), api.MaxSteps), slices.Repeat(args(step), api.MaxSteps+1), {step, k},
	}
	for _, f := range faults() {
		all = append(all, args(f.v), args(k, f.v), args(f.v, k))
	}
	return all
}

// P15.1: what Do tells of a class is what the class's own Do tells: of each
// method, its own or another class's, whatever it is given.
func TestDoIsTheClasss(t *testing.T) {
	methods := []string{"", "nope", "Get", "get "}
	for _, class := range classes() {
		methods = append(methods, chk.Methods(class)...)
	}
	all := calls()
	for class, do := range theirs() {
		states := append(rights(class), wrongs(class)...)
		for _, f := range faults() {
			states = append(states, f.v)
		}
		for _, now := range states {
			for _, method := range methods {
				for _, l := range all {
					wantThen, wantAnswer, want := do(now, method, l)
					then, answer, err := object.Do(class, now, method, l)
					if err != want || !exact(then, wantThen) || !exact(answer, wantAnswer) {
						t.Fatalf("Do(%s, %.80q, %q, %.80q): %.80q, %.40q, %v; wanted %.80q, %.40q, %v", class, value.Text(now), method, value.Text(list(l...)),
							value.Text(then), value.Text(answer), err, value.Text(wantThen), value.Text(wantAnswer), want)
					}
				}
			}
		}
	}
}

// writing: of each class a state that holds lists where it may, and calls that
// hand lists on.
func writing() []struct {
	class  string
	now    api.Value
	method string
	l      []api.Value
} {
	in := func() api.Value { return list(whole(1), list(text("x"))) }
	return []struct {
		class  string
		now    api.Value
		method string
		l      []api.Value
	}{
		{"counter", list(whole(1), float(1)), "add", args(whole(1))},
		{"counter", list(whole(1), float(1)), "total", nil},
		{"ledger", list(has("a", float(1)), has("b", float(2))), "transfer", args(text("b"), text("a"), whole(1))},
		{"ledger", list(has("a", float(1)), has("b", float(2))), "names", nil},
		{"orch", whole(1), "runs", nil},
		{"queue", list(in(), in()), "push", args(in())},
		{"queue", list(in(), in()), "peek", nil},
		{"queue", list(in(), in()), "pop", nil},
		{"register", in(), "get", nil},
		{"register", in(), "set", args(in())},
		{"register", in(), "cas", args(in(), in())},
		{"table", list(has("a", in()), has("b", in())), "put", args(text("a"), in())},
		{"table", list(has("a", in()), has("b", in())), "get", args(text("b"))},
		{"table", list(has("a", in()), has("b", in())), "del", args(text("b"))},
	}
}

// P15.1: the state and the answer share no memory with one another, or with what
// was handed in, which is neither changed nor kept.
func TestDoTellsInNewMemory(t *testing.T) {
	for _, x := range writing() {
		spare := stray(5)
		room := append(slices.Clone(x.l), spare)
		given, was := value.Clone(list(x.l...)), value.Clone(x.now)
		then, answer, err := object.Do(x.class, x.now, x.method, room[:len(x.l)])
		if err != api.OK {
			t.Fatalf("%s, %s: %v", x.class, x.method, err)
		}
		wantThen, wantAnswer := value.Clone(then), value.Clone(answer)
		spoil(answer.L)
		if !exact(then, wantThen) {
			t.Errorf("%s, %s: the state shares memory with the answer", x.class, x.method)
		}
		spoil(then.L)
		if !exact(list(room[:len(x.l)]...), given) || !exact(x.now, was) || !exact(room[len(x.l)], spare) {
			t.Errorf("%s, %s: what was handed in was changed", x.class, x.method)
		}
		then, answer, _ = object.Do(x.class, x.now, x.method, room[:len(x.l)])
		spoil(room)
		spoil(x.now.L)
		if !exact(then, wantThen) || !exact(answer, wantAnswer) {
			t.Errorf("%s, %s: what was handed in is kept", x.class, x.method)
		}
	}
}

// P15.1: what is told hangs on the arguments alone, whoever else calls.
func TestManyAtOnce(t *testing.T) {
	var all sync.WaitGroup
	shared, was := writing(), list(has("a", float(1)))
	for range 8 {
		all.Go(func() {
			for range 20 {
				for _, x := range shared {
					object.Do(x.class, x.now, x.method, x.l)
				}
				wantDo(t, "ledger", was, "balance", args(text("a")), was, float(1))
				wantSnapshot(t, "ledger", was, raw([]byte{2}, was))
				wantRestored(t, "ledger", raw([]byte{2}, was), was)
				wantError(t, "orch", whole(1), "fail", nil, api.ErrPanic)
			}
		})
	}
	all.Wait()
}
