package style_test

import (
	"math"
	"slices"
	"strings"
	"sync"
	"testing"
	"time"

	"choir/api"
	"choir/engine"
	"choir/style"
	"choir/value"
)

// P19.2: a new replica knows nothing, and has done nothing.
func TestNew(t *testing.T) {
	s := sit(t)
	s.wantNotAt(0, "", "a", "groups")
	s.wantNoReply(root(0, 0), root(1, 1), within(root(1, 1), 1))
	s.r.Learn()
	s.r.Lead(false)
	s.r.Lead(true)
	s.want(0, 0)
}

// The chapter's example: a cold group's replica does nothing till it leads.
func TestExample(t *testing.T) {
	s := sit(t, "c", "queue", "cold")
	s.r.Learn(s.pushes(3, "c")...)
	s.want(4, 1)
	s.wantAt("c", list(), 1)
	s.r.Lead(true)
	s.want(4, 4)
	s.wantAt("c", list(whole(2), whole(3), whole(4)), 4)
}

// P19.1: a call of an active group is done as soon as it is learnt, whatever it
// comes to.
func TestActive(t *testing.T) {
	s := sit(t, "a", "queue", "active", "o", "orch", "active")
	for i, o := range []api.Op{
		s.push("a"), s.call("a", "len"), s.call("a", "nope"), s.call("a", "nth", whole(9)), s.call("a", "push", stray(9)),
		s.call("o", "run", aStep("a", "push", text("x"))), s.call("o", "fail"), s.call("o", "runs"), s.call("a", strings.Repeat("m", api.MaxName+1)),
	} {
		s.r.Learn(o)
		s.want(i+3, i+3)
	}
	s.wantAt("a", list(whole(3), text("x")), 11)
	s.r.Learn(s.pushes(20, "a")...)
	s.want(31, 31)
}

// P19.1: what is learnt ahead of an active group's call is done with it; what is
// learnt behind it waits.
func TestActiveTakesAllAhead(t *testing.T) {
	s := sit(t, "a", "queue", "active", "c", "queue", "cold")
	s.r.Learn(s.pushes(2, "c")...)
	s.r.Learn(s.push("nobody"))
	s.want(5, 2)
	s.r.Learn(s.push("a"))
	s.want(6, 6)
	s.wantAt("c", list(whole(3), whole(4)), 6)
	s.r.Learn(s.push("c"), s.push("a"), s.push("c"), s.push("a"), s.push("c"), s.push("nobody"))
	s.want(12, 10)
	s.wantAt("c", list(whole(3), whole(4), whole(7), whole(9)), 10)
	s.wantAt("a", list(whole(6), whole(8), whole(10)), 10)
}

// P19.1: calls of groups are done as soon as they are learnt, with all ahead of
// them: also those that come to an error, and those that are no calls.
func TestDirectory(t *testing.T) {
	for what, o := range map[string]api.Op{
		"create":             op(root(9, 1), "groups", "create", text("z"), text("table"), text("cold")),
		"create again":       op(root(9, 1), "groups", "create", text("c"), text("table"), text("cold")),
		"style":              op(root(9, 1), "groups", "style", text("d"), text("warm")),
		"style of none":      op(root(9, 1), "groups", "style", text("z"), text("warm")),
		"destroy":            op(root(9, 1), "groups", "destroy", text("d")),
		"list":               op(root(9, 1), "groups", "list"),
		"another method":     op(root(9, 1), "groups", "push", whole(1)),
		"no method":          op(root(9, 1), "groups", ""),
		"another argument":   op(root(9, 1), "groups", "destroy", stray(9)),
		"a long method":      op(root(9, 1), "groups", strings.Repeat("m", api.MaxName+1)),
		"many arguments":     op(root(9, 1), "groups", "list", slices.Repeat([]api.Value{whole(1)}, api.MaxArgs+1)...),
		"a nested one":       op(within(root(9, 1), 1), "groups", "list"),
		"one that was done":  op(root(1, 1), "groups", "list"),
		"an old one":         op(root(8, 0), "groups", "list"),
		"the least id there": op(root(0, 0), "groups", "list"),
	} {
		s := sit(t, "c", "queue", "cold", "d", "queue", "cold")
		calls := []api.Op{op(root(1, 1), "groups", "create", text("c"), text("queue"), text("cold")), op(root(1, 2), "groups", "create", text("d"), text("queue"), text("cold"))}
		ahead := []api.Op{s.push("c"), s.push("nobody"), op(root(8, 1), "c", "len"), op(root(8, 2), "c", "len"), op(root(8, 3), "c", "len"), op(root(8, 4), "c", "len")}
		s.r.Learn(ahead...)
		s.want(8, 2)
		s.r.Learn(o, s.push("c"))
		s.want(10, 9)
		wantModel(t, s.r, slices.Concat(calls, ahead, []api.Op{o}), "c", "d", "z", "groups")
		if t.Failed() {
			t.Fatal(what)
		}
	}
}

// P19.1: what of a name is groups by its beginning, or by great letters, isn't of
// groups.
func TestNearlyTheDirectory(t *testing.T) {
	s := sit(t)
	for i, name := range []string{"", "group", "Groups", "groups ", "groups\x00", "\xff", strings.Repeat("groups", 20000)} {
		s.r.Learn(s.call(name, "create", text("a"), text("queue"), text("active")))
		s.want(i+1, 0)
	}
	s.wantNotAt(0, "a")
}

// P19.1: of cold groups, and of such that aren't there, nothing is done, however
// much is known.
func TestCold(t *testing.T) {
	s := sit(t, "c", "queue", "cold", "o", "orch", "cold", "a", "queue", "active")
	for n := range 5 * api.Every {
		s.r.Learn(s.call("o", "run", aStep("a", "push", whole(1))), s.push("c"), s.push("nobody"))
		s.want(6+3*n, 3)
	}
	s.wantAt("c", list(), 3)
	s.wantAt("o", whole(0), 3)
	s.wantAt("a", list(), 3)
	s.wantNotAt(3, "nobody", "groups")
}

// P19.1: a warm group's calls are done at the checkpoints, the multiples of Every
// among all that were learnt: all up to these.
func TestWarm(t *testing.T) {
	s := sit(t, "w", "queue", "warm")
	for n := 2; n < 6*api.Every; n++ {
		s.r.Learn(s.push("w"))
		s.want(n, max(1, n/api.Every*api.Every))
	}
	for n := range 40 {
		s = sit(t, "w", "queue", "warm")
		s.r.Learn(s.pushes(n, "w")...)
		s.want(n+1, max(1, (n+1)/api.Every*api.Every))
	}
}

// P19.1: one warm call anywhere up to the checkpoint takes along all up to it;
// none behind it does.
func TestWarmAmongOthers(t *testing.T) {
	const known = 3*api.Every + 3
	for place := 3; place <= known; place++ {
		s := sit(t, "c", "queue", "cold", "w", "queue", "warm")
		var l []api.Op
		for n := 3; n <= known; n++ {
			group := []string{"c", "nobody"}[n%2]
			if n == place {
				group = "w"
			}
			l = append(l, s.push(group))
		}
		done := 3 * api.Every
		if place > done {
			done = 2
		}
		s.r.Learn(l...)
		s.want(known, done)

		one := sit(t, "c", "queue", "cold", "w", "queue", "warm")
		for i, o := range l {
			one.r.Learn(o)
			want := 2
			if last := (i + 3) / api.Every * api.Every; last >= place {
				want = (place + api.Every - 1) / api.Every * api.Every
			}
			one.want(i+3, want)
		}
	}
}

// P19.1: cold calls behind the last checkpoint of a warm one wait, however many
// checkpoints go by.
func TestCheckpointsGoBy(t *testing.T) {
	s := sit(t, "c", "queue", "cold", "w", "queue", "warm")
	s.r.Learn(s.push("w"), s.push("c"), s.push("c"), s.push("c"))
	s.want(6, 4)
	s.r.Learn(s.pushes(3*api.Every, "c")...)
	s.want(18, 4)
	s.r.Learn(s.push("w"))
	s.want(19, 4)
	s.r.Learn(s.push("c"))
	s.want(20, 20)
	s.r.Learn(s.push("w"), s.push("w"), s.push("w"))
	s.want(23, 20)
	s.wantAt("w", list(whole(3), whole(19)), 20)
}

// P19.1: a checkpoint that what was done is beyond does nothing.
func TestBeyondTheCheckpoint(t *testing.T) {
	s := sit(t, "w", "queue", "warm", "a", "queue", "active")
	s.r.Learn(s.push("w"), s.push("w"), s.push("a"))
	s.want(5, 5)
	s.r.Learn(s.push("w"), s.push("w"))
	s.want(7, 5)
	s.r.Learn()
	s.want(7, 5)
	s.r.Learn(s.push("nobody"))
	s.want(8, 8)
}

// P19.1: an active call is done at once, whatever of warm groups is ahead of it;
// the rest waits for the checkpoint.
func TestActiveAmongWarm(t *testing.T) {
	s := sit(t, "a", "queue", "active", "w", "queue", "warm")
	s.r.Learn(s.push("w"), s.push("w"), s.push("w"), s.push("a"), s.push("w"))
	s.want(7, 6)
	s.r.Learn(s.push("c"))
	s.want(8, 8)
	s.wantAt("w", list(whole(3), whole(4), whole(5), whole(7)), 8)
}

// P19.1: it is the groups behind what was done that say what is due: those that
// the same calls make, change and end.
func TestGroupsChange(t *testing.T) {
	s := sit(t, "q", "queue", "cold")
	s.r.Learn(s.pushes(2, "q")...)
	s.want(3, 1)
	s.r.Learn(s.restyle("q", "active"), s.push("q"))
	s.want(5, 5)
	s.r.Learn(s.push("q"), s.restyle("q", "cold"), s.push("q"))
	s.want(8, 7)
	s.r.Learn(s.push("q"))
	s.want(9, 7)
	s.r.Learn(s.restyle("q", "warm"), s.push("q"))
	s.want(11, 10)
	s.r.Learn(s.push("q"))
	s.want(12, 12)
	s.r.Learn(s.destroy("q"), s.push("q"), s.push("q"), s.push("q"))
	s.want(16, 13)
	s.wantNotAt(13, "q")
	s.r.Learn(s.create("q", "register", "active"))
	s.want(17, 17)
	s.wantAt("q", api.Value{}, 17)
	s.r.Learn(s.call("q", "set", whole(1)), s.destroy("q"), s.push("q"), s.create("q", "queue", "warm"), s.push("q"))
	s.want(22, 21)
	s.r.Learn(s.pushes(2, "q")...)
	s.want(24, 24)
	s.wantAt("q", list(whole(22), whole(23), whole(24)), 24)
}

// P19.1: a directory's call that comes to an error changes no style.
func TestGroupsDontChange(t *testing.T) {
	s := sit(t, "q", "queue", "cold")
	s.r.Learn(s.create("q", "queue", "active"), s.push("q"))
	s.want(3, 2)
	s.r.Learn(s.restyle("q", "hot"), s.push("q"), s.call("groups", "style", text("q"), text("active"), text("active")), s.push("q"))
	s.want(7, 6)
	s.r.Learn(op(within(root(9, 9), 1), "groups", "style", text("q"), text("active")), s.push("q"))
	s.want(9, 8)
	s.r.Learn(op(root(1, 1), "groups", "style", text("q"), text("active")), s.push("q"))
	s.want(11, 10)
	s.r.Learn(op(root(1, 1000), "groups", "style", text("q"), text("active")), s.push("q"))
	s.want(13, 13)
}

// P19.1: what is told first of it holds first: a warm group that the same calls
// end takes nothing along to the checkpoint.
func TestInTheOrderTold(t *testing.T) {
	s := sit(t, "c", "queue", "cold", "w", "queue", "warm")
	s.r.Learn(s.push("w"), s.destroy("w"), s.push("w"), s.push("c"), s.push("c"), s.push("c"))
	s.want(8, 4)
	s = sit(t, "c", "queue", "cold", "w", "queue", "warm")
	s.r.Learn(s.push("w"), s.restyle("c", "warm"), s.push("w"), s.push("c"), s.push("c"), s.push("c"), s.push("c"))
	s.want(9, 8)
}

// P19.1: one that leads has done all that it knows; one that doesn't lead any
// more does what its groups say.
func TestLead(t *testing.T) {
	s := sit(t, "c", "queue", "cold", "w", "queue", "warm")
	s.r.Learn(s.push("c"))
	s.r.Lead(false)
	s.want(3, 2)
	s.r.Lead(true)
	s.want(3, 3)
	s.r.Lead(true)
	s.want(3, 3)
	for n := range 6 {
		s.r.Learn(s.push([]string{"c", "w", "nobody"}[n%3]))
		s.want(n+4, n+4)
	}
	s.r.Lead(false)
	s.want(9, 9)
	s.r.Learn(s.push("c"), s.push("w"))
	s.want(11, 9)
	s.r.Learn(s.push("c"))
	s.want(12, 12)
	s.r.Learn(s.push("c"))
	s.want(13, 12)
	s.r.Lead(true)
	s.r.Lead(false)
	s.want(13, 13)
	s.wantAt("c", list(whole(3), whole(4), whole(7), whole(10), whole(12), whole(13)), 13)
}

// P19.1, P19.2: what was learnt twice, what is old and what is no call count as
// any other one, though engine.Apply does nothing by them.
func TestWhatIsLearntTwice(t *testing.T) {
	s := sit(t, "w", "queue", "warm")
	first := s.push("w")
	calls := []api.Op{
		first, first, op(first.Id, "w", "pop"), op(within(first.Id, 1), "w", "pop"), op(root(2, 1), "w", "push", slices.Repeat([]api.Value{whole(1)}, api.MaxArgs+1)...),
		op(root(2, 1), "w", strings.Repeat("m", api.MaxName+1)), op(root(1, 0), "w", "push", text("late")),
	}
	for i, o := range calls {
		s.r.Learn(o)
		s.want(i+2, max(1, (i+2)/api.Every*api.Every))
	}
	s.wantAt("w", list(whole(2), text("late")), 8)
}

// P19.3: calls are done as engine.Apply does them, whatever they are, also when
// they waited.
func TestAsTheEngineDoes(t *testing.T) {
	odd := []api.Value{
		{}, whole(math.MinInt64), nan(0xfff0000000000123), float(math.Copysign(0, -1)), text("\xff"), long(api.MaxText), long(api.MaxText + 1), long(70000),
		stray(5), stray(-1), stray(math.MaxInt), list(whole(1), stray(9)), list(stray(9), long(api.MaxText+1)), times(api.MaxItems, api.Value{}), times(api.MaxItems+1, api.Value{}),
		nested(api.MaxDepth-1, whole(1)), nested(api.MaxDepth, whole(1)), nested(api.MaxDepth+1, stray(9)), nested(65, whole(1)), nested(4000, stray(9)),
		times(20, long(200)), times(20, long(201)), ring(), {Kind: api.Int, I: 3, F: math.NaN(), S: "crowd", L: []api.Value{stray(9)}},
	}
	seq := uint32(0)
	next := func(group, method string, l ...api.Value) api.Op {
		seq++
		return op(root(seq, 1), group, method, l...)
	}
	var calls []api.Op
	for i, class := range []string{"counter", "ledger", "orch", "queue", "register", "table"} {
		calls = append(calls, next("groups", "create", text(class), text(class), text([]string{"cold", "warm"}[i%2])))
	}
	for _, v := range odd {
		calls = append(calls, next("register", "set", v), next("register", "cas", whole(1), v), next("register", "cas", v, v), next("register", "set", v, stray(9)),
			next("queue", "push", v), next("queue", "nth", v), next("table", "put", text("k"), v), next("table", "get", v), next("counter", "add", v), next("ledger", "open", v),
			next("ledger", "deposit", text("x"), v), next("orch", "run", v), next("orch", "run", aStep("register", "set", v)), next("orch", "run", aStep("queue", "push", v), v),
			next("orch", "fail", v), next("nobody", "set", v), next("queue", "nope", v), next("register", "set", long(api.MaxText+1), v), next("register", "set", stray(9), v))
	}
	classes := []string{"counter", "ledger", "orch", "queue", "register", "table", "nobody"}
	r := style.New()
	r.Learn(calls...)
	wantModel(t, r, calls, classes...)
	r.Lead(true)
	if r.Done() != len(calls) {
		t.Errorf("%d done; wanted %d", r.Done(), len(calls))
	}
	wantModel(t, r, calls, classes...)
}

// P19.2: At tells of groups that are there behind what was done alone, and how
// many calls that is.
func TestAt(t *testing.T) {
	s := sit(t, "c", "register", "cold", "d", "counter", "active")
	s.wantAt("c", api.Value{}, 2)
	s.wantAt("d", list(whole(0), float(0)), 2)
	s.wantNotAt(2, "", "C", "c ", "groups", "nobody", strings.Repeat("c", 70000))
	s.r.Learn(s.call("c", "set", whole(5)), s.call("d", "add", whole(5)), s.call("c", "set", whole(6)))
	s.wantAt("c", whole(5), 4)
	s.wantAt("d", list(whole(1), float(5)), 4)
	s.r.Learn(s.destroy("c"))
	s.wantNotAt(6, "c", "nobody")
	s.wantAt("d", list(whole(1), float(5)), 6)
}

// Rule 3 of what holds everywhere: what is handed in is neither changed nor kept,
// nor is the room behind it.
func TestWhatIsHandedIn(t *testing.T) {
	given := func() []api.Op {
		in := list(list(whole(1), nan(0xfff0000000000123)), text("a"))
		return []api.Op{
			op(root(2, 1), "c", "push", []api.Value{in, text("behind"), stray(9)}[:1]...),
			op(root(2, 2), "r", "set", in),
			op(root(2, 3), "o", "run", aStep("c", "push", in), aStep("c", "push", in)),
			op(root(2, 4), "r", "set", stray(9)),
			op(root(3, 1), "behind", "push", in),
		}
	}
	s := sit(t, "c", "queue", "cold", "r", "register", "cold", "o", "orch", "cold")
	l := given()
	s.r.Learn(l[:4]...)
	if !slices.EqualFunc(l, given(), sameCall) || !exact(l[0].Args[:3][2], stray(9)) || !exact(l[0].Args[:3][1], text("behind")) {
		t.Error("Learn changed what was handed in")
	}
	for i := range l {
		spoil(l[i].Args)
		l[i] = api.Op{}
	}
	s.r.Lead(true)
	v := list(list(whole(1), nan(canonNaN)), text("a"))
	s.wantAt("c", list(v, v, v), 7)
	s.wantAt("r", v, 7)
	s.wantAt("o", whole(1), 7)
	s.wantReply(api.Reply{Id: root(2, 4), Err: api.ErrBadArgs})
}

// Rule 3 of what holds everywhere: what is answered is new memory.
func TestAnswersAreNewMemory(t *testing.T) {
	s := sit(t, "a", "queue", "active")
	v := list(whole(1), list(text("x")))
	s.r.Learn(s.call("a", "push", copied(v)), s.call("a", "peek"))
	for range 2 {
		state, _, _ := s.r.At("a")
		r, _ := s.r.Reply(s.last)
		spoil(state.L)
		spoil(r.V.L)
	}
	s.wantAt("a", list(v), 3)
	s.wantReply(api.Reply{Id: s.last, V: v})
}

// Rule 2 of what holds everywhere: no arguments and an empty list are the same.
func TestEmptyLists(t *testing.T) {
	s := sit(t, "a", "queue", "active")
	s.r.Learn([]api.Op{}...)
	s.r.Learn([]api.Op(nil)...)
	s.want(1, 1)
	for _, l := range [][]api.Value{nil, {}} {
		s.r.Learn(s.call("a", "len", l...))
		s.wantReply(api.Reply{Id: s.last, V: whole(0)})
	}
}

// All calls end, however many are learnt.
func TestMany(t *testing.T) {
	began := time.Now()
	for _, group := range []string{"a", "w", "c", "groups"} {
		s := sit(t, "a", "counter", "active", "w", "counter", "warm", "c", "counter", "cold")
		const n = 50000
		var l []api.Op
		for range n {
			l = append(l, s.call(group, "add", whole(1)))
		}
		s.r.Learn(l...)
		s.want(n+3, map[string]int{"a": n + 3, "w": (n + 3) / api.Every * api.Every, "c": 3, "groups": n + 3}[group])
		s.r.Lead(true)
		s.want(n+3, n+3)
		if group != "groups" {
			s.wantAt(group, list(whole(n), float(n)), n+3)
		}
	}
	if took := time.Since(began); took > time.Minute {
		t.Errorf("it took %v", took)
	}
}

// P19.3: what a replica answers hangs on what it was told alone, whoever tells
// others the same.
func TestManyAtOnce(t *testing.T) {
	s := sit(t)
	shared := []api.Op{s.create("w", "queue", "warm"), s.create("c", "queue", "cold"), s.create("o", "orch", "active")}
	for range 5 {
		shared = append(shared, s.push("w"), s.push("c"), s.call("o", "run", aStep("c", "pop"), aStep("w", "push", nan(0xfff0000000000123))), s.push("w"), s.push("c"))
	}
	_, m := engine.Model(shared...)
	want, _ := m.State("w")
	var ended sync.WaitGroup
	for range 8 {
		ended.Go(func() {
			for range 20 {
				r := style.New()
				r.Learn(shared...)
				if r.Done() != 28 {
					t.Errorf("%d done", r.Done())
				}
				r.Lead(true)
				if got, n, there := r.At("w"); !there || n != len(shared) || !exact(got, want) {
					t.Errorf("%s, %d, %v", value.Text(got), n, there)
				}
			}
		})
	}
	ended.Wait()
}
