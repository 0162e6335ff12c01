package engine_test

import (
	"slices"
	"strings"
	"testing"

	"choir/api"
)

// wantKept asks that these are the replies of the client's last call, and of
// its nested ones.
func (s *seat) wantKept(want ...api.Reply) {
	s.t.Helper()
	var got []api.Reply
	for _, r := range s.e.Replies() {
		if r.Id.Client == s.last.Client && r.Id.Seq == s.last.Seq {
			got = append(got, r)
		}
	}
	if !slices.EqualFunc(got, want, alike) {
		s.t.Errorf("Replies: %s; wanted %s", told(got...), told(want...))
	}
}

// P18.1: a run does its steps in order, each a call of its own, whose reply is
// put by its id; it answers what they came to, and is counted.
func TestRun(t *testing.T) {
	s := sit(t, "o", "orch", "q", "queue", "c", "counter")
	s.want(list(whole(1), float(2.5), text("x"), api.Value{}, whole(1)), "o", "run",
		aStep("q", "push", text("x")), aStep("c", "add", float(2.5)), aStep("q", "pop"), aStep("q", "pop"), aStep("c", "count"))
	id := s.last
	s.wantKept(
		api.Reply{Id: id, V: list(whole(1), float(2.5), text("x"), api.Value{}, whole(1))},
		api.Reply{Id: within(id, 1), V: whole(1)}, api.Reply{Id: within(id, 2), V: float(2.5)}, api.Reply{Id: within(id, 3), V: text("x")},
		api.Reply{Id: within(id, 4)}, api.Reply{Id: within(id, 5), V: whole(1)},
	)
	s.wantState("o", whole(1))
	s.wantState("q", list())
	s.wantState("c", list(whole(1), float(2.5)))
	s.want(list(float(3)), "o", "run", aStep("c", "add", float(0.5)))
	s.wantState("o", whole(2))
	s.want(whole(2), "o", "runs")
}

// P18.1: a run of MaxSteps is done; one more is orch.Plan's ErrBadArgs.
func TestMaxSteps(t *testing.T) {
	s := sit(t, "o", "orch", "q", "queue")
	push := aStep("q", "push", whole(5))
	var want []api.Value
	for i := range api.MaxSteps {
		want = append(want, whole(int64(i+1)))
	}
	s.want(list(want...), "o", "run", slices.Repeat([]api.Value{push}, api.MaxSteps)...)
	replies := []api.Reply{{Id: s.last, V: list(want...)}}
	for i, v := range want {
		replies = append(replies, api.Reply{Id: within(s.last, uint16(i+1)), V: v})
	}
	s.wantKept(replies...)
	s.wantState("q", times(api.MaxSteps, whole(5)))
	s.wantError(api.ErrBadArgs, "o", "run", slices.Repeat([]api.Value{push}, api.MaxSteps+1)...)
	s.wantKept(api.Reply{Id: s.last, Err: api.ErrBadArgs})
	s.wantError(api.ErrBadArgs, "o", "run", slices.Repeat([]api.Value{push}, api.MaxArgs)...)
}

// P18.1: beside orch.Plan's error no step is done, nor replied to.
func TestNoPlan(t *testing.T) {
	s := sit(t, "o", "orch", "q", "queue")
	push := aStep("q", "push", whole(5))
	for _, x := range []struct {
		err api.Errno
		l   []api.Value
	}{
		{api.ErrBadArgs, nil},
		{api.ErrBadArgs, []api.Value{push, text("q")}},
		{api.ErrBadArgs, []api.Value{push, list(text("q"))}},
		{api.ErrBadArgs, []api.Value{push, list(text("q"), whole(1))}},
		{api.ErrBadArgs, []api.Value{push, aStep("", "len")}},
		{api.ErrBadArgs, []api.Value{push, aStep("q", "")}},
		{api.ErrBadArgs, []api.Value{push, aStep(strings.Repeat("q", api.MaxName+1), "len")}},
		{api.ErrBadArgs, []api.Value{push, aStep("q", strings.Repeat("q", api.MaxName+1))}},
		{api.ErrBadArgs, []api.Value{push, stray(9)}},
		{api.ErrBadArgs, []api.Value{push, aStep("q", "push", stray(9))}},
		{api.ErrSize, []api.Value{push, ring()}},
		{api.ErrSize, []api.Value{push, aStep("q", "push", long(api.MaxText+1))}},
		{api.ErrSize, []api.Value{push, aStep("q", "push", nested(api.MaxDepth, whole(1)))}},
		{api.ErrSize, []api.Value{push, aStep("q", "push", filled(api.MaxSize))}},
		{api.ErrSize, []api.Value{whole(1), aStep("q", "push", slices.Repeat([]api.Value{{}}, api.MaxItems-1)...)}},
	} {
		s.wantError(x.err, "o", "run", x.l...)
		s.wantKept(api.Reply{Id: s.last, Err: x.err})
	}
	s.wantState("o", whole(0))
	s.wantState("q", list())
}

// P18.1: a step's error is its reply's, and is told the run as a List of
// "error" and its number; the steps behind it are done all the same.
func TestStepsErrors(t *testing.T) {
	s := sit(t, "o", "orch", "p", "orch", "q", "queue", "l", "ledger")
	s.want(api.Value{}, "l", "open", text("a"))
	steps := []struct {
		step api.Value
		err  api.Errno
	}{
		{aStep("nobody", "get"), api.ErrBadRef},
		{aStep("q", "nope"), api.ErrBadArgs},
		{aStep("q", "push"), api.ErrBadArgs},
		{aStep("q", "run", aStep("q", "pop")), api.ErrBadArgs},
		{aStep("q", "nth", whole(7)), api.ErrPanic},
		{aStep("l", "open", text("a")), api.ErrExists},
		{aStep("l", "balance", text("b")), api.ErrBadRef},
		{aStep("l", "deposit", text("a"), float(-1)), api.ErrRange},
		{aStep("l", "transfer", text("a"), text("a"), whole(1)), api.ErrFunds},
		{aStep("q", "push", slices.Repeat([]api.Value{whole(1)}, api.MaxArgs+1)...), api.ErrBadArgs},
		{aStep("nobody", "push", slices.Repeat([]api.Value{whole(1)}, api.MaxItems-2)...), api.ErrBadRef},
		{aStep(strings.Repeat("n", api.MaxName), strings.Repeat("m", api.MaxName)), api.ErrBadRef},
		{aStep("groups", "list"), api.ErrNest},
		{aStep("groups", "create", text("z"), text("queue"), text("warm")), api.ErrNest},
		{aStep("groups", "destroy", text("q")), api.ErrNest},
		{aStep("groups", "nope"), api.ErrNest},
		{aStep("o", "runs"), api.ErrNest},
		{aStep("o", "run", aStep("q", "pop")), api.ErrNest},
		{aStep("o", "fail"), api.ErrNest},
		{aStep("o", "nope"), api.ErrNest},
		{aStep("p", "runs"), api.ErrNest},
		{aStep("p", "run", aStep("q", "pop")), api.ErrNest},
		{aStep("p", "nope", whole(1)), api.ErrNest},
	}
	groups := s.e.Groups()
	for i, x := range steps {
		s.want(list(failed(x.err), whole(int64(i+1))), "o", "run", x.step, aStep("q", "push", whole(1)))
		s.wantKept(
			api.Reply{Id: s.last, V: list(failed(x.err), whole(int64(i+1)))},
			api.Reply{Id: within(s.last, 1), Err: x.err}, api.Reply{Id: within(s.last, 2), V: whole(int64(i + 1))},
		)
		s.wantState("o", whole(int64(i+1)))
	}
	s.wantState("p", whole(0))
	s.wantState("l", list(list(text("a"), float(0))))
	wantGroups(t, s.e, groups...)
}

// P18.1: a step answers its own value, though it looks like an error.
func TestStepThatLooksLikeAnError(t *testing.T) {
	s := sit(t, "o", "orch", "r", "register")
	s.want(api.Value{}, "r", "set", failed(api.ErrFunds))
	s.want(list(failed(api.ErrFunds)), "o", "run", aStep("r", "get"))
	s.wantKept(api.Reply{Id: s.last, V: list(failed(api.ErrFunds))}, api.Reply{Id: within(s.last, 1), V: failed(api.ErrFunds)})
}

// P18.1: beside an error of orch.Do what the steps did stays, and so do their
// replies; the run isn't counted.
func TestStepsStay(t *testing.T) {
	for _, v := range []api.Value{filled(api.MaxSize - 1), nested(api.MaxDepth, whole(1)), filled(api.MaxSize)} {
		s := sit(t, "o", "orch", "r", "register", "q", "queue")
		s.want(api.Value{}, "r", "set", v)
		done := s.e.Done()
		r := s.call("o", "run", aStep("q", "push", whole(1)), aStep("r", "set", whole(2)), aStep("q", "push", whole(3)))
		if !alike(r, api.Reply{Id: s.last, Err: api.ErrSize}) || s.e.Done() != done+1 {
			t.Errorf("%s, %d done", told(r), s.e.Done()-done)
		}
		s.wantKept(r, api.Reply{Id: within(s.last, 1), V: whole(1)}, api.Reply{Id: within(s.last, 2), V: v}, api.Reply{Id: within(s.last, 3), V: whole(2)})
		s.wantState("q", list(whole(1), whole(3)))
		s.wantState("r", whole(2))
		s.wantState("o", whole(0))
	}
	s := sit(t, "o", "orch", "r", "register")
	s.want(api.Value{}, "r", "set", nested(api.MaxDepth-1, whole(1)))
	s.want(list(nested(api.MaxDepth-1, whole(1))), "o", "run", aStep("r", "get"))
	s.want(nested(api.MaxDepth-1, whole(1)), "r", "set", filled(api.MaxSize-2))
	s.want(list(filled(api.MaxSize-2)), "o", "run", aStep("r", "get"))
}

// P18.1: a run that was replied to is told again; its steps aren't done again.
func TestRunToldAgain(t *testing.T) {
	s := sit(t, "o", "orch", "q", "queue")
	steps := []api.Value{aStep("q", "push", whole(1)), aStep("q", "nope")}
	s.want(list(whole(1), failed(api.ErrBadArgs)), "o", "run", steps...)
	for range 3 {
		wantSame(t, s.e, op(s.last, "o", "run", steps...), api.Reply{Id: s.last, V: list(whole(1), failed(api.ErrBadArgs))})
	}
	s.wantState("q", list(whole(1)))
	s.wantState("o", whole(1))
}

// P18.1, P16.1: the replies of a run and of its steps stay and go together.
func TestRunsRepliesGo(t *testing.T) {
	s := sit(t, "o", "orch", "q", "queue")
	s.last.Seq = 99
	for range api.MaxOpen {
		s.call("o", "run", aStep("q", "push", whole(1)), aStep("q", "pop"))
	}
	if n := len(s.e.Replies()); n != 3*api.MaxOpen {
		t.Errorf("%d replies; wanted %d", n, 3*api.MaxOpen)
	}
	s.want(whole(0), "q", "len")
	replies := s.e.Replies()
	if len(replies) != 3*(api.MaxOpen-1)+1 || replies[0].Id != root(1, 101) {
		t.Errorf("%s", told(replies...))
	}
	wantSame(t, s.e, op(root(1, 100), "o", "run", aStep("q", "push", whole(1))), api.Reply{Id: root(1, 100), Err: api.ErrOld})
	if r := s.e.Apply(op(root(1, 1), "o", "run", aStep("q", "pop"))); r.Err != api.ErrOld {
		t.Errorf("%s", told(r))
	}
}

// P18.1: run is a run of a group of class orch alone.
func TestRunOfOthers(t *testing.T) {
	s := sit(t, "q", "queue", "run", "register", "orch", "table")
	for _, name := range []string{"q", "run", "orch"} {
		s.wantError(api.ErrBadArgs, name, "run", aStep("q", "push", whole(1)))
		s.wantKept(api.Reply{Id: s.last, Err: api.ErrBadArgs})
	}
	s.wantError(api.ErrBadRef, "nobody", "run", aStep("q", "push", whole(1)))
	s.wantKept(api.Reply{Id: s.last, Err: api.ErrBadRef})
	s.want(api.Value{}, "groups", "destroy", text("q"))
	s.want(api.Value{}, "groups", "create", text("q"), text("orch"), text("active"))
	s.want(list(api.Value{}), "q", "run", aStep("run", "get"))
	for _, x := range [][2]string{{"q", "Run"}, {"q", "ru"}, {"q", "runs "}} {
		s.wantError(api.ErrBadArgs, x[0], x[1], aStep("run", "get"))
		s.wantKept(api.Reply{Id: s.last, Err: api.ErrBadArgs})
	}
}

// P18.1: a step sees what the steps ahead of it did, and is done once.
func TestStepsSeeOneAnother(t *testing.T) {
	s := sit(t, "o", "orch", "t", "table", "r", "register")
	s.want(list(api.Value{}, whole(1), list(text("k")), whole(1), whole(0), api.Value{}, whole(1), text("b")), "o", "run",
		aStep("t", "put", text("k"), whole(1)), aStep("t", "get", text("k")), aStep("t", "keys"), aStep("t", "del", text("k")), aStep("t", "size"),
		aStep("r", "set", text("a")), aStep("r", "cas", text("a"), text("b")), aStep("r", "get"))
}
