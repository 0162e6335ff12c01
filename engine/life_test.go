package engine_test

import (
	"math/rand"
	"slices"
	"strings"
	"testing"

	"choir/api"
	"choir/args"
	"choir/engine"
	"choir/group"
	"choir/object"
	"choir/opid"
	"choir/orch"
	"choir/value"
)

// entry: a call that was done, nested or not, and what it came to.
type entry struct {
	o api.Op
	r api.Reply
}

// history: the calls that were done, a run's steps ahead of it. It tells what
// P18.1 says of an engine without keeping one: all that it is asked is worked
// out from its beginning.
type history []entry

// groups gives the groups that are there.
func (h history) groups() *group.Dir {
	d := group.New()
	for _, x := range h {
		if x.o.Group == "groups" && x.o.Id.Nest == 0 {
			d.Do(x.o.Method, x.o.Args)
		}
	}
	return d
}

// state gives the state of a group that is there: what was done of it since it
// was made last.
func (h history) state(name string) api.Value {
	var class string
	var state api.Value
	for _, x := range h {
		switch {
		case x.r.Err != api.OK:
		case x.o.Group == "groups" && x.o.Method == "create" && x.o.Args[0].S == name:
			class = x.o.Args[1].S
			state, _ = args.Start(class)
		case x.o.Group == name && class == "orch" && x.o.Method == "run":
			state = whole(state.I + 1)
		case x.o.Group == name:
			state, _, _ = object.Do(class, state, x.o.Method, x.o.Args)
		}
	}
	return state
}

// kept tells whether the reply to id would be kept, and whether it would be old.
func (h history) kept(id api.OpId) (kept, old bool) {
	var seqs []uint32
	for _, x := range h {
		if x.o.Id.Client == id.Client {
			seqs = append(seqs, x.o.Id.Seq)
		}
	}
	slices.Sort(seqs)
	seqs = slices.Compact(seqs)
	seqs = seqs[max(0, len(seqs)-api.MaxOpen):]
	return slices.Contains(seqs, id.Seq), len(seqs) == api.MaxOpen && id.Seq < seqs[0]
}

// replies gives the replies that are kept.
func (h history) replies() []api.Reply {
	var all []api.Reply
	for _, x := range h {
		if kept, _ := h.kept(x.o.Id); kept {
			all = append(all, x.r)
		}
	}
	slices.SortFunc(all, func(a, b api.Reply) int {
		if opid.Less(a.Id, b.Id) {
			return -1
		}
		return 1
	})
	return all
}

// done gives how many calls were done.
func (h history) done() int {
	n := 0
	for _, x := range h {
		if x.o.Id.Nest == 0 {
			n++
		}
	}
	return n
}

// apply gives what o is to be answered, and the history behind it.
func (h history) apply(o api.Op) (history, api.Reply) {
	if o.Id.Nest != 0 || max(len(o.Group), len(o.Method)) > api.MaxName || len(o.Args) > api.MaxArgs {
		return h, api.Reply{Id: o.Id, Err: api.ErrBadArgs}
	}
	kept, old := h.kept(o.Id)
	switch {
	case kept:
		i := slices.IndexFunc(h, func(x entry) bool { return x.o.Id == o.Id })
		return h, h[i].r
	case old:
		return h, api.Reply{Id: o.Id, Err: api.ErrOld}
	}
	h, v, err := h.call(o)
	r := api.Reply{Id: o.Id, Err: err, V: v}
	return append(h, entry{o, r}), r
}

// call gives what a call that is to be done comes to, and the history ahead of
// its own end.
func (h history) call(o api.Op) (history, api.Value, api.Errno) {
	g, there := h.groups().Get(o.Group)
	switch {
	case o.Group == "groups":
		v, err := h.groups().Do(o.Method, o.Args)
		return h, v, err
	case !there:
		return h, api.Value{}, api.ErrBadRef
	case g.Class == "orch" && o.Method == "run":
		return h.run(o)
	}
	_, v, err := object.Do(g.Class, h.state(o.Group), o.Method, o.Args)
	return h, v, err
}

func (h history) run(o api.Op) (history, api.Value, api.Errno) {
	steps, err := orch.Plan(o.Args)
	if err != api.OK {
		return h, api.Value{}, err
	}
	answer := list()
	for i, s := range steps {
		nest := op(within(o.Id, uint16(i+1)), s.Group, s.Method, s.Args...)
		g, _ := h.groups().Get(s.Group)
		v, err := api.Value{}, api.ErrNest
		if s.Group != "groups" && g.Class != "orch" {
			_, v, err = h.call(nest)
		}
		h = append(h, entry{nest, api.Reply{Id: nest.Id, Err: err, V: v}})
		if err != api.OK {
			v = failed(err)
		}
		answer.L = append(answer.L, v)
	}
	if err := value.Check(answer); err != api.OK {
		return h, api.Value{}, err
	}
	return h, answer, api.OK
}

// do has the engine do a call, and asks for what P18.1 says of it.
func (h history) do(t *testing.T, e *engine.Engine, o api.Op) history {
	t.Helper()
	then, want := h[:len(h):len(h)].apply(o)
	if got := e.Apply(o); !alike(got, want) {
		t.Fatalf("%s.%s(%s): %s; wanted %s", o.Group, o.Method, value.Text(list(o.Args...)), told(got), told(want))
	}
	return then
}

// hold holds the engine against what was done.
func (h history) hold(t *testing.T, e *engine.Engine) {
	t.Helper()
	groups := h.groups()
	wantGroups(t, e, groups.All()...)
	for _, name := range names() {
		if _, there := groups.Get(name); there {
			wantState(t, e, name, h.state(name))
		} else {
			wantNoState(t, e, name)
		}
	}
	wantReplies(t, e, h.replies()...)
	if e.Done() != h.done() {
		t.Errorf("%d done; wanted %d", e.Done(), h.done())
	}
	if t.Failed() {
		t.FailNow()
	}
}

func names() []string { return []string{"a", "b", "c", "d", "groups", "z"} }

// picking gives a number below n.
type picking func(n int) int

func one[T any](pick picking, l []T) T { return l[pick(len(l))] }

// someCall gives a call: of few names, so that it often finds something; of a
// client's next Seq for the most part.
func someCall(pick picking, last map[uint32]uint32) api.Op {
	id := root(uint32(pick(3)), 0)
	last[id.Client] += uint32(one(pick, []int{1, 1, 1, 1, 1, 1, 1, 0, 2, 3}))
	id.Seq = last[id.Client]
	switch pick(16) {
	case 0:
		id.Seq = uint32(pick(int(id.Seq) + 1))
	case 1:
		id.Nest = uint16(pick(3))
	}
	if pick(4) == 0 {
		return directoryCall(pick, id)
	}
	name := one(pick, names())
	method, l := someMethod(pick)
	if pick(3) == 0 {
		method, l = "run", nil
		for range pick(api.MaxSteps + 2) {
			m, behind := someMethod(pick)
			l = append(l, aStep(one(pick, names()), m, behind...))
		}
	}
	return op(id, name, method, l...)
}

func directoryCall(pick picking, id api.OpId) api.Op {
	name, style := text(one(pick, names()[:5])), text(one(pick, []string{"active", "warm", "cold", "hot"}))
	switch pick(8) {
	case 0:
		return op(id, "groups", "destroy", name)
	case 1:
		return op(id, "groups", "style", name, style)
	case 2:
		return op(id, "groups", "list")
	}
	return op(id, "groups", "create", name, text(one(pick, append(args.Classes(), "orch", "queue", "stack"))), style)
}

// someMethod gives a method of any class, and arguments that it may take.
func someMethod(pick picking) (string, []api.Value) {
	class := one(pick, args.Classes())
	method := one(pick, args.Methods(class))
	v := one(pick, []api.Value{{}, whole(1), whole(0), float(0.5), nan(canonNaN), text("k"), list(whole(2), text("x")), filled(1500), nested(api.MaxDepth-2, list())})
	name := text(one(pick, []string{"j", "k", strings.Repeat("k", api.MaxName)}))
	switch method {
	case "set", "push", "add", "nth":
		return method, []api.Value{v}
	case "get", "del":
		return method, []api.Value{name}[:pick(2)]
	case "balance", "close", "open":
		return method, []api.Value{name}
	case "cas":
		return method, []api.Value{v, whole(int64(pick(2)))}
	case "put", "deposit":
		return method, []api.Value{name, v}
	case "transfer":
		return method, []api.Value{name, text("j"), v}
	}
	return method, nil
}

// P18.1, P18.3: long lives, and those of clones that go their own ways, held at
// each step; and the model of each life's calls is what it came to.
func TestAnyLife(t *testing.T) {
	for seed := range int64(12) {
		r := rand.New(rand.NewSource(seed))
		lives, engines := []history{nil}, []*engine.Engine{engine.New()}
		calls, lasts := [][]api.Op{nil}, []map[uint32]uint32{{}}
		for range 120 {
			i := r.Intn(len(engines))
			o := someCall(r.Intn, lasts[i])
			lives[i] = lives[i].do(t, engines[i], o)
			calls[i] = append(calls[i][:len(calls[i]):len(calls[i])], o)
			if len(engines) < 4 && r.Intn(30) == 0 {
				lives, engines = append(lives, lives[i]), append(engines, engines[i].Clone())
				calls, lasts = append(calls, calls[i]), append(lasts, map[uint32]uint32{0: lasts[i][0], 1: lasts[i][1], 2: lasts[i][2]})
			}
			for k := range engines {
				lives[k].hold(t, engines[k])
			}
		}
		for k, e := range engines {
			if replies, m := engine.Model(calls[k]...); all(m) != all(e) || len(replies) != len(calls[k]) {
				t.Fatalf("%s; wanted %s", all(m), all(e))
			}
		}
	}
}

// P18.1, P18.3: all lives that four calls lead to: each of its Seq, so that
// some are told again, and some are old.
func TestAllShortLives(t *testing.T) {
	id := func(seq uint32) api.OpId { return root(1, seq) }
	calls := []api.Op{
		op(id(1), "groups", "create", text("a"), text("queue"), text("warm")),
		op(id(2), "groups", "create", text("b"), text("orch"), text("cold")),
		op(id(3), "a", "push", whole(3)),
		op(id(4), "b", "run", aStep("a", "push", whole(4)), aStep("b", "runs"), aStep("c", "get"), aStep("a", "pop")),
		op(id(5), "groups", "destroy", text("a")),
		op(id(6), "groups", "create", text("a"), text("orch"), text("warm")),
		op(id(7), "a", "run", aStep("a", "runs"), aStep("a", "push", whole(7))),
		op(id(2), "a", "pop"),
	}
	const length = 5
	count := 1
	for range length {
		count *= len(calls)
	}
	for n := range count {
		var h history
		e := engine.New()
		for range length {
			h = h.do(t, e, calls[n%len(calls)])
			n /= len(calls)
		}
		h.hold(t, e)
	}
}

// FuzzLife holds any life against P18.1: its bytes are what is picked.
func FuzzLife(f *testing.F) {
	for seed := range int64(8) {
		b := make([]byte, 400)
		rand.New(rand.NewSource(seed)).Read(b)
		f.Add(b)
	}
	f.Fuzz(func(t *testing.T, b []byte) {
		b = b[:min(len(b), 600)]
		pick := func(n int) int {
			if len(b) == 0 {
				return 0
			}
			first := b[0]
			b = b[1:]
			return int(first) % n
		}
		var h history
		e, last := engine.New(), map[uint32]uint32{}
		for len(b) > 0 {
			h = h.do(t, e, someCall(pick, last))
			h.hold(t, e)
		}
	})
}
