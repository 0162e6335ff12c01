package engine_test

import (
	"math"
	"slices"
	"strings"
	"sync"
	"testing"

	"choir/api"
	"choir/args"
	"choir/engine"
	"choir/value"
)

// P18.2: a new engine has nothing.
func TestNew(t *testing.T) {
	e := engine.New()
	wantGroups(t, e)
	wantReplies(t, e)
	wantNoState(t, e, "", "a", "groups", "queue")
	if e.Done() != 0 || all(e.Clone()) != all(e) {
		t.Errorf("a new engine: %s; its clone: %s", all(e), all(e.Clone()))
	}
}

// The chapter's example: create, push, pop.
func TestExample(t *testing.T) {
	s := sit(t, "a", "queue")
	s.want(whole(1), "a", "push", text("x"))
	s.wantState("a", list(text("x")))
	s.want(text("x"), "a", "pop")
	s.wantState("a", list())
	s.want(api.Value{}, "a", "pop")
	wantGroups(t, s.e, made("a", "queue", api.Active, 1))
}

// P18.1: an object begins as its class does, and ends with its group; one that
// is made again begins anew.
func TestObjectsComeAndGo(t *testing.T) {
	for _, class := range args.Classes() {
		s := sit(t, "a", class, "b", "register")
		start, _ := args.Start(class)
		s.wantState("a", start)
		s.want(api.Value{}, "b", "set", whole(1))
		s.want(api.Value{}, "groups", "destroy", text("a"))
		wantNoState(t, s.e, "a")
		s.wantError(api.ErrBadRef, "a", args.Methods(class)[0])
		s.wantState("b", whole(1))
		s.want(api.Value{}, "groups", "create", text("a"), text(class), text("cold"))
		s.wantState("a", start)
	}
}

// P17.3: a group that was destroyed and made again is another one, of another
// class even; the state goes with the group.
func TestMadeAgain(t *testing.T) {
	s := sit(t, "a", "queue")
	s.want(whole(1), "a", "push", whole(5))
	s.want(api.Value{}, "groups", "destroy", text("a"))
	s.want(api.Value{}, "groups", "create", text("a"), text("queue"), text("active"))
	s.wantState("a", list())
	s.want(whole(1), "a", "push", whole(6))
	s.want(api.Value{}, "groups", "destroy", text("a"))
	s.want(api.Value{}, "groups", "create", text("a"), text("counter"), text("warm"))
	s.wantState("a", list(whole(0), float(0)))
	s.want(float(2), "a", "add", whole(2))
	s.wantError(api.ErrBadArgs, "a", "push", whole(2))
	wantGroups(t, s.e, made("a", "counter", api.Warm, 1))
}

// P18.1: calls of the directory are group.Do's: what it answers, its errors;
// beside an error nothing is made or ended.
func TestDirectory(t *testing.T) {
	s := sit(t, "b", "queue", "a", "table")
	s.want(whole(1), "b", "push", whole(1))
	s.want(api.Value{}, "groups", "style", text("b"), text("cold"))
	s.wantState("b", list(whole(1)))
	s.want(list(list(text("a"), text("table"), text("active"), whole(1)), list(text("b"), text("queue"), text("cold"), whole(2))), "groups", "list")
	s.wantError(api.ErrExists, "groups", "create", text("b"), text("counter"), text("warm"))
	s.wantError(api.ErrBadRef, "groups", "destroy", text("c"))
	s.wantError(api.ErrBadRef, "groups", "destroy", text("groups"))
	s.wantError(api.ErrBadRef, "groups", "style", text("c"), text("warm"))
	s.wantError(api.ErrBadArgs, "groups", "style", text("b"), text("hot"))
	s.wantError(api.ErrBadArgs, "groups", "create", text("groups"), text("queue"), text("warm"))
	s.wantError(api.ErrBadArgs, "groups", "create", text("c"), text("stack"), text("warm"))
	s.wantError(api.ErrBadArgs, "groups", "create", text("c"), text("queue"))
	s.wantError(api.ErrBadArgs, "groups", "create")
	s.wantError(api.ErrBadArgs, "groups", "destroy")
	s.wantError(api.ErrBadArgs, "groups", "destroy", text("b"), text("a"))
	s.wantError(api.ErrBadArgs, "groups", "run", aStep("b", "pop"))
	s.wantError(api.ErrBadArgs, "groups", "push", whole(1))
	s.wantError(api.ErrBadArgs, "groups", "")
	s.wantError(api.ErrSize, "groups", "create", long(api.MaxText+1), text("queue"), text("warm"))
	s.wantError(api.ErrSize, "groups", "nope", ring())
	s.wantError(api.ErrBadArgs, "groups", "list", stray(9))
	wantGroups(t, s.e, made("a", "table", api.Active, 1), made("b", "queue", api.Cold, 2))
	wantNoState(t, s.e, "c", "groups")
}

// P18.1: MaxGroups groups have an object each; one more is ErrFull, and has
// none.
func TestMaxGroups(t *testing.T) {
	s := sit(t)
	for i := range api.MaxGroups {
		s.want(api.Value{}, "groups", "create", text(key(i)), text("register"), text("active"))
		s.want(api.Value{}, key(i), "set", whole(int64(i)))
	}
	s.wantError(api.ErrFull, "groups", "create", text("z"), text("register"), text("active"))
	wantNoState(t, s.e, "z")
	s.wantError(api.ErrBadRef, "z", "get")
	s.want(api.Value{}, "groups", "destroy", text(key(3)))
	s.want(api.Value{}, "groups", "create", text("z"), text("queue"), text("active"))
	s.wantState("z", list())
	for i := range api.MaxGroups {
		if i != 3 {
			s.wantState(key(i), whole(int64(i)))
		}
	}
}

// P18.1: of a group that isn't there all is ErrBadRef, whatever the call is.
func TestNoGroup(t *testing.T) {
	s := sit(t, "a", "queue")
	for _, name := range []string{"", "b", "A", "a ", "Groups", "queue", "\xff", strings.Repeat("a", api.MaxName)} {
		for _, method := range []string{"", "pop", "push", "run", "create", "list", "fail"} {
			s.wantError(api.ErrBadRef, name, method)
			s.wantError(api.ErrBadRef, name, method, stray(9))
			s.wantError(api.ErrBadRef, name, method, long(api.MaxText+1), ring())
			s.wantError(api.ErrBadRef, name, method, aStep("a", "push", whole(1)))
		}
	}
	s.wantState("a", list())
}

// P18.1: a call of a group is object.Do of its class and state.
func TestEachClass(t *testing.T) {
	s := sit(t, "c", "counter", "l", "ledger", "o", "orch", "q", "queue", "r", "register", "t", "table")
	s.want(float(1), "c", "add", whole(1))
	s.want(float(1.5), "c", "add", float(0.5))
	s.wantState("c", list(whole(2), float(1.5)))
	s.want(api.Value{}, "l", "open", text("x"))
	s.want(float(3), "l", "deposit", text("x"), whole(3))
	s.want(api.Value{}, "l", "open", text("y"))
	s.want(float(2), "l", "transfer", text("x"), text("y"), whole(1))
	s.wantState("l", list(list(text("x"), float(2)), list(text("y"), float(1))))
	s.wantError(api.ErrFunds, "l", "close", text("y"))
	s.wantError(api.ErrBadRef, "l", "balance", text("z"))
	s.wantError(api.ErrExists, "l", "open", text("y"))
	s.want(whole(0), "o", "runs")
	s.wantError(api.ErrPanic, "o", "fail")
	s.wantState("o", whole(0))
	s.want(whole(1), "q", "push", nan(0xfff0000000000123))
	s.wantState("q", list(nan(canonNaN)))
	s.wantError(api.ErrPanic, "q", "nth", whole(1))
	s.wantError(api.ErrPanic, "q", "nth", whole(math.MinInt64))
	s.want(nan(canonNaN), "q", "nth", whole(0))
	s.want(api.Value{}, "r", "set", filled(api.MaxSize))
	s.wantError(api.ErrSize, "r", "set", filled(api.MaxSize+1))
	s.wantError(api.ErrBadArgs, "r", "set", stray(5))
	s.want(filled(api.MaxSize), "r", "get")
	s.want(api.Value{}, "t", "put", text("k"), whole(1))
	s.want(whole(1), "t", "put", text("k"), whole(2))
	s.wantState("t", list(list(text("k"), whole(2))))
	for _, name := range []string{"c", "l", "o", "q", "r", "t"} {
		s.wantError(api.ErrBadArgs, name, "")
		s.wantError(api.ErrBadArgs, name, "create", text("n"), text("queue"), text("active"))
		s.wantError(api.ErrBadArgs, name, "nope", ring())
	}
}

// P18.1: what a call holds beside its values' kinds is nowhere in what it makes.
func TestCleaned(t *testing.T) {
	s := sit(t, "q", "queue", "r", "register")
	v := list(nan(0x7ff0000000000001), text("a"), list(), whole(3))
	want := list(nan(canonNaN), text("a"), list(), whole(3))
	s.want(api.Value{}, "r", "set", crowd(v))
	s.wantState("r", want)
	s.want(want, "r", "set", crowd(v))
	s.want(whole(1), "q", "push", crowd(v))
	s.want(want, "q", "pop")
	s.want(api.Value{}, "groups", "create", crowd(text("n")), crowd(text("table")), crowd(text("warm")))
	s.wantState("n", list())
}

// The face: a call has an Id of Nest 0, a Group and a Method of at most MaxName
// bytes, at most MaxArgs args; any other one is ErrBadArgs, and isn't done: its
// id is free still.
func TestNoCalls(t *testing.T) {
	s := sit(t, "a", "queue")
	name, more := strings.Repeat("a", api.MaxName), strings.Repeat("a", api.MaxName+1)
	full := slices.Repeat([]api.Value{whole(1)}, api.MaxArgs+1)
	id := root(1, 9)
	for _, o := range []api.Op{
		op(within(id, 1), "a", "push", whole(1)),
		op(within(id, api.MaxSteps), "a", "push", whole(1)),
		op(within(id, math.MaxUint16), "groups", "create", text("b"), text("queue"), text("warm")),
		op(within(root(0, 0), 1), "", ""),
		op(id, more, "push", whole(1)),
		op(id, strings.Repeat("groups", 20000), "list"),
		op(id, "a", more, whole(1)),
		op(id, "groups", strings.Repeat("list", 20000)),
		op(id, "a", "push", full...),
		op(id, "nobody", "push", full...),
		op(id, "groups", "list", slices.Repeat([]api.Value{ring()}, api.MaxArgs+1)...),
		op(id, "groups", "list", slices.Repeat([]api.Value{stray(9)}, 70000)...),
		op(id, more, more, full...),
	} {
		wantSame(t, s.e, o, api.Reply{Id: o.Id, Err: api.ErrBadArgs})
	}
	for i, x := range []struct {
		o   api.Op
		err api.Errno
	}{
		{op(root(2, 1), name, "push", whole(1)), api.ErrBadRef},
		{op(root(2, 2), "a", name, whole(1)), api.ErrBadArgs},
		{op(root(2, 3), name, name, full[:api.MaxArgs]...), api.ErrBadRef},
		{op(root(2, 4), "a", "push", full[:api.MaxArgs]...), api.ErrBadArgs},
		{op(id, "a", "push", whole(1)), api.OK},
	} {
		if r := s.e.Apply(x.o); r.Id != x.o.Id || r.Err != x.err || s.e.Done() != i+2 {
			t.Errorf("%s.%s of %d: %s, %d done", x.o.Group, x.o.Method, len(x.o.Args), told(r), s.e.Done())
		}
	}
}

// The face: what is no call is refused ahead of all, also where its id was
// answered, or is old.
func TestNoCallsAhead(t *testing.T) {
	s := sit(t, "a", "orch")
	s.last.Seq = 10
	for range api.MaxOpen + 1 {
		s.want(list(failed(api.ErrBadRef)), "a", "run", aStep("b", "get"))
	}
	more := strings.Repeat("a", api.MaxName+1)
	for _, o := range []api.Op{
		op(s.last, more, "runs"), op(s.last, "a", more), op(s.last, "a", "runs", make([]api.Value, api.MaxArgs+1)...),
		op(within(s.last, 1), "b", "get"), op(within(s.last, 2), "b", "get"),
		op(root(1, 3), more, "runs"), op(within(root(1, 3), 1), "b", "get"),
	} {
		wantSame(t, s.e, o, api.Reply{Id: o.Id, Err: api.ErrBadArgs})
	}
}

// P18.1: a reply that is there is told again, with its error and its value,
// whatever the call is; nothing is done.
func TestToldAgain(t *testing.T) {
	s := sit(t, "q", "queue")
	s.want(whole(1), "q", "push", list(text("x"), whole(4)))
	push := s.last
	s.want(list(text("x"), whole(4)), "q", "pop")
	pop := s.last
	s.wantError(api.ErrPanic, "q", "nth", whole(0))
	nth := s.last
	for range 2 {
		wantSame(t, s.e, op(push, "q", "push", list(text("x"), whole(4))), api.Reply{Id: push, V: whole(1)})
		wantSame(t, s.e, op(push, "q", "len"), api.Reply{Id: push, V: whole(1)})
		wantSame(t, s.e, op(pop, "q", "pop"), api.Reply{Id: pop, V: list(text("x"), whole(4))})
		wantSame(t, s.e, op(pop, "groups", "destroy", text("q")), api.Reply{Id: pop, V: list(text("x"), whole(4))})
		wantSame(t, s.e, op(nth, "q", "push", whole(1)), api.Reply{Id: nth, Err: api.ErrPanic})
		wantSame(t, s.e, op(root(1, 1), "groups", "create", text("q"), text("queue"), text("active")), api.Reply{Id: root(1, 1)})
	}
	s.wantState("q", list())
	s.want(api.Value{}, "groups", "destroy", text("q"))
	wantSame(t, s.e, op(pop, "q", "pop"), api.Reply{Id: pop, V: list(text("x"), whole(4))})
	if r := s.e.Apply(op(root(2, 1), "q", "push", whole(1))); r.Err != api.ErrBadRef { // another client's first one
		t.Errorf("%s; wanted ErrBadRef", told(r))
	}
}

// P18.1: what is below a client's MaxOpen greatest Seqs is ErrOld, and isn't
// done; what isn't below all of them is done, though it comes late.
func TestOld(t *testing.T) {
	e := engine.New()
	create := func(seq uint32) api.Op {
		return op(root(3, seq), "groups", "create", text(key(int(seq))), text("queue"), text("active"))
	}
	for _, seq := range []uint32{9, 3, 7, 5} {
		if r := e.Apply(create(seq)); !alike(r, api.Reply{Id: root(3, seq)}) {
			t.Errorf("%s", told(r))
		}
	}
	for _, seq := range []uint32{0, 1, 2} {
		wantSame(t, e, create(seq), api.Reply{Id: root(3, seq), Err: api.ErrOld})
	}
	if r := e.Apply(create(4)); !alike(r, api.Reply{Id: root(3, 4)}) {
		t.Errorf("%s", told(r))
	}
	wantSame(t, e, create(3), api.Reply{Id: root(3, 3), Err: api.ErrOld})
	wantReplies(t, e, api.Reply{Id: root(3, 4)}, api.Reply{Id: root(3, 5)}, api.Reply{Id: root(3, 7)}, api.Reply{Id: root(3, 9)})
	if r := e.Apply(op(root(4, 0), "k03", "push", whole(1))); !alike(r, api.Reply{Id: root(4, 0), V: whole(1)}) || e.Done() != 6 {
		t.Errorf("another client: %s, %d done", told(r), e.Done())
	}
	if r := e.Apply(create(math.MaxUint32)); !alike(r, api.Reply{Id: root(3, math.MaxUint32)}) {
		t.Errorf("%s", told(r))
	}
	wantSame(t, e, create(4), api.Reply{Id: root(3, 4), Err: api.ErrOld})
}

// P18.2: Done counts what was done, errors too: not what was told again, what
// was old, or no call.
func TestDone(t *testing.T) {
	s := sit(t, "a", "orch", "q", "queue")
	for i, x := range []struct {
		o    api.Op
		done int
	}{
		{op(root(1, 3), "q", "push", whole(1)), 3},
		{op(root(1, 3), "q", "push", whole(1)), 3},
		{op(root(1, 4), "nobody", "push"), 4},
		{op(root(1, 4), "nobody", "push"), 4},
		{op(root(1, 5), "q", "nope"), 5},
		{op(root(1, 6), "a", "fail"), 6},
		{op(root(1, 7), "a", "run", aStep("q", "pop"), aStep("q", "pop")), 7},
		{op(root(1, 7), "a", "run", aStep("q", "pop"), aStep("q", "pop")), 7},
		{op(root(1, 8), "a", "run"), 8},
		{op(root(1, 1), "q", "pop"), 8},
		{op(within(root(1, 9), 1), "q", "pop"), 8},
		{op(root(1, 9), strings.Repeat("q", 33), "pop"), 8},
		{op(root(1, 9), "", ""), 9},
		{op(root(0, 0), "groups", "list"), 10},
	} {
		s.e.Apply(x.o)
		if s.e.Done() != x.done {
			t.Errorf("%d: %d done; wanted %d", i, s.e.Done(), x.done)
		}
	}
}

// P18.2: Replies are those that are kept, in order of their ids.
func TestReplies(t *testing.T) {
	e := engine.New()
	for _, id := range []api.OpId{root(9, 1), root(2, 300), root(2, 4), root(0, 0), root(math.MaxUint32, math.MaxUint32)} {
		e.Apply(op(id, "nobody", "get"))
	}
	e.Apply(op(root(2, 5), "groups", "list"))
	bad := func(id api.OpId) api.Reply { return api.Reply{Id: id, Err: api.ErrBadRef} }
	wantReplies(t, e, bad(root(0, 0)), bad(root(2, 4)), api.Reply{Id: root(2, 5), V: list()}, bad(root(2, 300)), bad(root(9, 1)), bad(root(math.MaxUint32, math.MaxUint32)))
}

// P18.2: State is of groups that are there alone.
func TestState(t *testing.T) {
	s := sit(t, "a", "register", "b", "register")
	s.want(api.Value{}, "b", "set", list(whole(1)))
	s.wantState("a", api.Value{})
	s.wantState("b", list(whole(1)))
	wantNoState(t, s.e, "", "c", "groups", "A", "ab", strings.Repeat("a", 70000))
}

// life gives calls that make, change and end objects.
func life() []api.Op {
	return []api.Op{
		op(root(1, 1), "groups", "create", text("q"), text("queue"), text("warm")),
		op(root(1, 2), "groups", "create", text("o"), text("orch"), text("active")),
		op(root(2, 1), "q", "push", list(whole(1), list(text("x")))),
		op(root(2, 2), "q", "push", nan(0xfff0000000000123)),
		op(root(1, 3), "o", "run", aStep("q", "push", list(whole(7))), aStep("q", "peek"), aStep("nobody", "get")),
		op(root(1, 3), "q", "pop"),
		op(root(1, 4), "groups", "style", text("q"), text("cold")),
		op(root(2, 3), "groups", "list"),
		op(within(root(2, 4), 1), "q", "pop"),
		op(root(2, 4), "q", "nth", whole(9)),
	}
}

// P18.2: Model gives a new engine's reply to each call, and the engine.
func TestModel(t *testing.T) {
	for n := range len(life()) + 1 {
		e := engine.New()
		var want []api.Reply
		for _, o := range life()[:n] {
			want = append(want, e.Apply(o))
		}
		replies, m := engine.Model(life()[:n]...)
		if !slices.EqualFunc(replies, want, alike) || all(m) != all(e) {
			t.Errorf("%d calls: %s, %s; wanted %s, %s", n, told(replies...), all(m), told(want...), all(e))
		}
	}
	replies, m := engine.Model(life()...)
	if len(replies) != len(life()) || m.Done() != len(life())-2 || replies[5].Id != root(1, 3) || !alike(replies[5], replies[4]) || replies[8].Err != api.ErrBadArgs {
		t.Errorf("%s, %d done", told(replies...), m.Done())
	}
	if r := m.Apply(op(root(5, 1), "q", "len")); !alike(r, api.Reply{Id: root(5, 1), V: whole(3)}) {
		t.Errorf("the engine goes on: %s", told(r))
	}
}

// P18.3: the same calls in the same order make the same states, and the same
// replies, each time.
func TestSameAgain(t *testing.T) {
	want, m := engine.Model(life()...)
	for range 20 {
		replies, e := engine.Model(life()...)
		if !slices.EqualFunc(replies, want, alike) || all(e) != all(m) {
			t.Fatalf("%s, %s; wanted %s, %s", told(replies...), all(e), told(want...), all(m))
		}
	}
}

// P18.2: a clone is like its engine, and each of them goes its own way.
func TestClone(t *testing.T) {
	for n := range len(life()) + 1 {
		_, e := engine.Model(life()[:n]...)
		before := all(e)
		c := e.Clone()
		if all(c) != before {
			t.Errorf("%d calls: %s; its clone: %s", n, before, all(c))
		}
		more := []api.Op{
			op(root(1, 5), "q", "push", whole(2)), op(root(1, 6), "o", "run", aStep("q", "pop")), op(root(1, 7), "groups", "destroy", text("q")),
			op(root(1, 8), "groups", "create", text("z"), text("table"), text("warm")), op(root(1, 9), "z", "put", text("k"), whole(1)),
		}
		for _, o := range more {
			c.Apply(o)
		}
		if all(e) != before {
			t.Errorf("%d calls: what its clone did was told by an engine: %s; before it %s", n, all(e), before)
		}
		behind := all(c)
		for _, o := range more {
			e.Apply(o)
		}
		if all(e) != behind {
			t.Errorf("%d calls: %s; its clone: %s", n, all(e), behind)
		}
		e.Apply(op(root(7, 1), "z", "del", text("k")))
		if all(c) != behind {
			t.Errorf("%d calls: what an engine did was told by its clone: %s; before it %s", n, all(c), behind)
		}
	}
}

// P18.2: a clone tells again what its engine answered, and what is old there is
// old here.
func TestCloneTellsAgain(t *testing.T) {
	s := sit(t, "o", "orch", "q", "queue")
	for range 5 {
		s.call("o", "run", aStep("q", "push", whole(1)), aStep("q", "len"))
	}
	c := s.e.Clone()
	for seq := range uint32(8) {
		o := op(root(1, seq), "q", "push", whole(1))
		wantSame(t, c, o, s.e.Apply(o))
	}
	wantSame(t, c, op(root(1, 3), "q", "pop"), api.Reply{Id: root(1, 3), Err: api.ErrOld})
	wantSame(t, c, op(root(1, 4), "q", "pop"), api.Reply{Id: root(1, 4), V: list(whole(2), whole(2))})
}

// Rule 3 of what holds everywhere: what is handed in is neither changed nor
// kept.
func TestWhatIsHandedIn(t *testing.T) {
	given := func() []api.Value {
		in := list(crowd(list(whole(1), text("a"))), nan(0xfff0000000000123))
		return []api.Value{in, in, text("behind"), stray(9)}
	}
	step := func() []api.Value {
		return []api.Value{aStep("r", "set", given()[:2]...), aStep("r", "set", given()[0]), aStep("q", "push", given()[0]), stray(9)}
	}
	s := sit(t, "q", "queue", "r", "register", "t", "table", "o", "orch")
	for _, x := range []struct {
		group, method string
		l             []api.Value
	}{
		{"q", "push", given()[:1]}, {"r", "set", given()[:1]}, {"r", "cas", given()[:2]}, {"t", "put", append([]api.Value{text("k")}, given()...)[:2]},
		{"o", "run", step()[:3]}, {"o", "run", step()}, {"nobody", "push", given()}, {"groups", "create", given()[:3]},
		{"groups", "create", []api.Value{text("n"), text("queue"), text("warm"), stray(9)}[:3]}, {"q", "push", given()},
	} {
		room := x.l[:cap(x.l)]
		was := slices.Clone(room)
		for i, v := range was {
			was[i] = copied(v)
		}
		s.call(x.group, x.method, x.l...)
		if !slices.EqualFunc(room, was, exact) {
			t.Errorf("%s.%s changed what was handed in", x.group, x.method)
		}
		now := all(s.e)
		spoil(x.l)
		if all(s.e) != now {
			t.Errorf("%s.%s kept what was handed in: %s; before it %s", x.group, x.method, all(s.e), now)
		}
	}
	calls := append(life(), op(root(9, 1), "behind", ""))
	l := calls[:len(calls)-1]
	replies, e := engine.Model(l...)
	words, now := told(replies...), all(e)
	if calls[len(l)].Group != "behind" || !slices.EqualFunc(l, life(), sameCall) {
		t.Error("Model changed what was handed in")
	}
	for i := range calls {
		spoil(calls[i].Args)
		calls[i] = api.Op{}
	}
	if told(replies...) != words || all(e) != now {
		t.Errorf("Model kept what was handed in: %s, %s", told(replies...), all(e))
	}
}

// copied gives v with all its fields, in new memory.
func copied(v api.Value) api.Value {
	v.L = slices.Clone(v.L)
	for i, item := range v.L {
		v.L[i] = copied(item)
	}
	return v
}

func sameCall(a, b api.Op) bool {
	return a.Id == b.Id && a.Group == b.Group && a.Method == b.Method && slices.EqualFunc(a.Args, b.Args, exact)
}

// Rule 3 of what holds everywhere: what is answered is new memory.
func TestAnswersAreNewMemory(t *testing.T) {
	_, e := engine.Model(append(life(), op(root(3, 1), "q", "peek"))...)
	now, c := all(e), e.Clone()
	for _, o := range []api.Op{op(root(3, 1), "q", "peek"), op(root(1, 3), "o", "run"), op(root(2, 3), "groups", "list")} {
		spoil(e.Apply(o).V.L)
	}
	state, _ := e.State("q")
	spoil(state.L)
	for _, r := range e.Replies() {
		spoil(r.V.L)
	}
	clear(e.Groups())
	clear(e.Replies())
	if all(e) != now || all(c) != now {
		t.Errorf("answers share memory: %s, its clone %s; before it %s", all(e), all(c), now)
	}
	fresh := e.Apply(op(root(3, 2), "q", "pop"))
	word := value.Text(fresh.V)
	spoil(fresh.V.L)
	if again := e.Apply(op(root(3, 2), "q", "pop")); value.Text(again.V) != word {
		t.Errorf("%s; wanted %s", value.Text(again.V), word)
	}
	if r := c.Apply(op(root(3, 2), "q", "pop")); value.Text(r.V) != word {
		t.Errorf("the clone: %s; wanted %s", value.Text(r.V), word)
	}
}

// P18.1: a run's answer, its steps' replies and the states share no memory.
func TestRunIsNewMemory(t *testing.T) {
	s := sit(t, "r", "register", "o", "orch")
	v := list(whole(1), list(text("x")))
	s.want(api.Value{}, "r", "set", v)
	r := s.call("o", "run", aStep("r", "get"), aStep("r", "get"))
	if want := list(v, v); !exact(r.V, want) {
		t.Fatalf("%s; wanted %s", told(r), value.Text(want))
	}
	now := all(s.e)
	spoil(r.V.L[0].L)
	if !exact(r.V.L[1], v) || all(s.e) != now {
		t.Errorf("%s; %s, and before it %s", told(r), all(s.e), now)
	}
}

// Rule 2 of what holds everywhere: no arguments and an empty list are the same.
func TestEmptyLists(t *testing.T) {
	s := sit(t, "q", "queue", "o", "orch")
	for _, l := range [][]api.Value{nil, {}} {
		s.want(whole(0), "q", "len", l...)
		s.wantError(api.ErrBadArgs, "o", "run", l...)
		s.want(whole(0), "o", "runs", l...)
	}
	if replies, e := engine.Model(); len(replies) != 0 || all(e) != all(engine.New()) {
		t.Errorf("Model of none: %s, %s", told(replies...), all(e))
	}
}

// P18.3: what an engine answers hangs on its calls alone, whoever calls others.
func TestManyAtOnce(t *testing.T) {
	shared := life()
	want, m := engine.Model(shared...)
	words := all(m)
	var done sync.WaitGroup
	for range 8 {
		done.Go(func() {
			for range 20 {
				c := m.Clone()
				c.Apply(op(root(8, 1), "o", "run", aStep("q", "pop"), aStep("q", "push", whole(1))))
				replies, e := engine.Model(shared...)
				if !slices.EqualFunc(replies, want, alike) || all(e) != words {
					t.Errorf("%s, %s", told(replies...), all(e))
				}
			}
		})
	}
	done.Wait()
	if all(m) != words {
		t.Errorf("its clones changed it: %s", all(m))
	}
}
