package style_test

import (
	"math/rand"
	"slices"
	"strings"
	"testing"

	"choir/api"
	"choir/engine"
	"choir/style"
	"choir/value"
)

// past: all that a replica was told. It tells what P19.1 and P19.2 say of it
// without keeping an engine: what was done is done anew each time it is asked.
type past struct {
	calls []api.Op
	done  int
	leads bool
}

// model gives the engine that did what was done.
func (p *past) model() *engine.Engine {
	_, m := engine.Model(p.calls[:p.done]...)
	return m
}

// styleOf gives the style of a group that is there behind what was done.
func (p *past) styleOf(name string) (int, bool) {
	for _, g := range p.model().Groups() {
		if g.Name == name {
			return g.Style, true
		}
	}
	return 0, false
}

// goOn does what is due, as P19.1 says it, word by word.
func (p *past) goOn() {
	for {
		was := p.done
		switch {
		case p.leads:
			p.done = len(p.calls)
		case p.active() > 0:
			p.done = p.active()
		case p.warm():
			p.done = len(p.calls) / api.Every * api.Every
		}
		if p.done == was {
			return
		}
	}
}

// active gives the number of the first call that isn't done, and is of groups,
// or of a group that is active; 0 of none.
func (p *past) active() int {
	for i := p.done; i < len(p.calls); i++ {
		its, there := p.styleOf(p.calls[i].Group)
		if p.calls[i].Group == "groups" || there && its == api.Active {
			return i + 1
		}
	}
	return 0
}

// warm tells whether a call that isn't done, up to the greatest multiple of
// Every, is of a group that is warm.
func (p *past) warm() bool {
	for number := p.done + 1; number <= len(p.calls)/api.Every*api.Every; number++ {
		if its, there := p.styleOf(p.calls[number-1].Group); there && its == api.Warm {
			return true
		}
	}
	return false
}

// reply gives the reply to id, as P19.2 says it.
func (p *past) reply(id api.OpId) (api.Reply, bool) {
	for _, o := range p.calls[p.done:] {
		if o.Id.Client == id.Client && o.Id.Seq == id.Seq {
			p.done = len(p.calls)
			break
		}
	}
	for _, r := range p.model().Replies() {
		if r.Id == id {
			return r, true
		}
	}
	return api.Reply{}, false
}

// pair: a replica, and its past.
type pair struct {
	t *testing.T
	r *style.Replica
	past
}

func newPair(t *testing.T) *pair { return &pair{t: t, r: style.New()} }

func (p *pair) learn(l ...api.Op) {
	p.r.Learn(l...)
	p.calls = append(p.calls, l...)
	p.goOn()
	p.hold()
}

func (p *pair) lead(on bool) {
	p.r.Lead(on)
	p.leads = on
	p.goOn()
	p.hold()
}

func (p *pair) ask(id api.OpId) {
	p.t.Helper()
	got, there := p.r.Reply(id)
	if want, wanted := p.reply(id); there != wanted || !alike(got, want) {
		p.t.Fatalf("%s, %v; wanted %s, %v of %s", told(got), there, told(want), wanted, inWords(p.calls))
	}
	p.hold()
}

// hold holds the replica against its past.
func (p *pair) hold() {
	p.t.Helper()
	if p.r.Known() != len(p.calls) || p.r.Done() != p.done {
		p.t.Fatalf("%d known, %d done; wanted %d, %d of %s", p.r.Known(), p.r.Done(), len(p.calls), p.done, inWords(p.calls))
	}
	wantModel(p.t, p.r, p.calls, names()...)
}

func names() []string { return []string{"a", "b", "c", "groups", "z"} }

// picking gives a number below n.
type picking func(n int) int

func one[T any](pick picking, l []T) T { return l[pick(len(l))] }

// step tells the replica something.
func (p *pair) step(pick picking, last map[uint32]uint32) {
	switch pick(12) {
	case 0:
		p.lead(pick(3) == 0)
	case 1, 2:
		id := root(uint32(pick(3)), 0)
		id.Seq = max(last[id.Client], 6) + 1 - uint32(pick(7))
		id.Nest = uint16(one(pick, []int{0, 0, 0, 1, 2, 9}))
		p.ask(id)
	default:
		var l []api.Op
		for range one(pick, []int{0, 1, 1, 1, 2, 3, 7}) {
			l = append(l, someCall(pick, last))
		}
		p.learn(l...)
	}
}

// someCall gives a call: of few groups, so that it often finds one; of a
// client's next Seq for the most part.
func someCall(pick picking, last map[uint32]uint32) api.Op {
	id := root(uint32(pick(3)), 0)
	last[id.Client] += uint32(one(pick, []int{1, 1, 1, 1, 1, 1, 1, 0, 2, 3}))
	id.Seq = last[id.Client]
	switch pick(20) {
	case 0:
		id.Seq = uint32(pick(int(id.Seq) + 1))
	case 1:
		id.Nest = uint16(pick(3))
	}
	if pick(6) == 0 {
		return directoryCall(pick, id)
	}
	name := one(pick, names())
	v := one(pick, []api.Value{{}, whole(1), nan(0xfff0000000000123), list(text("x"), float(2)), stray(9), long(api.MaxText + 1), ring()})
	switch pick(6) {
	case 0:
		return op(id, name, "run", aStep(one(pick, names()), "push", whole(7)), aStep(one(pick, names()), "len"))
	case 1:
		return op(id, name, "pop")
	case 2:
		return op(id, name, "set", v)
	case 3:
		return op(id, name, one(pick, []string{"get", "nope", strings.Repeat("m", api.MaxName+1)}))
	}
	return op(id, name, "push", v)
}

func directoryCall(pick picking, id api.OpId) api.Op {
	name, style := text(one(pick, names()[:4])), text(one(pick, []string{"active", "warm", "cold", "cold", "warm", "hot"}))
	switch pick(8) {
	case 0:
		return op(id, "groups", "destroy", name)
	case 1, 2:
		return op(id, "groups", "style", name, style)
	case 3:
		return op(id, "groups", "list")
	}
	return op(id, "groups", "create", name, text(one(pick, []string{"queue", "queue", "orch", "register", "stack"})), style)
}

// P19.1 to P19.3: long lives, held at each step.
func TestAnyLife(t *testing.T) {
	for seed := range int64(60) {
		r := rand.New(rand.NewSource(seed))
		p, last := newPair(t), map[uint32]uint32{}
		p.learn(
			op(root(9, 1), "groups", "create", text("a"), text("queue"), text("cold")),
			op(root(9, 2), "groups", "create", text("b"), text("queue"), text("warm")),
			op(root(9, 3), "groups", "create", text("c"), text("orch"), text("cold")),
		)
		for range 50 {
			p.step(r.Intn, last)
		}
	}
}

// P19.1: all lives of four calls that are learnt at once, or one by one; then it
// leads for a while somewhere, and is asked.
func TestAllShortLives(t *testing.T) {
	id := func(seq uint32) api.OpId { return root(1, seq) }
	calls := []api.Op{
		op(id(2), "groups", "create", text("b"), text("queue"), text("active")),
		op(id(3), "groups", "style", text("a"), text("warm")),
		op(id(4), "groups", "style", text("a"), text("cold")),
		op(id(5), "groups", "destroy", text("a")),
		op(id(6), "a", "push", whole(6)),
		op(id(7), "b", "push", whole(7)),
		op(id(8), "c", "push", whole(8)),
	}
	for n := range 2 * 7 * 7 * 7 * 7 {
		first, leads := []string{"cold", "warm"}[n%2], n%6
		l := []api.Op{op(id(1), "groups", "create", text("a"), text("queue"), text(first))}
		for n /= 2; len(l) < 5; n /= 7 {
			l = append(l, calls[n%7])
		}
		p := newPair(t)
		p.learn(l...)
		p.ask(id(7))
		p = newPair(t)
		for i, o := range l {
			p.learn(o)
			if i == leads {
				p.lead(true)
				p.lead(false)
			}
		}
		p.ask(id(6))
	}
}

// P19.3: whatever the groups' styles, whenever it was asked, and whoever led,
// replicas that have done all of the same calls are alike.
func TestWhateverTheStyle(t *testing.T) {
	for seed := range int64(20) {
		r := rand.New(rand.NewSource(seed))
		last := map[uint32]uint32{}
		var calls []api.Op
		for range 60 {
			calls = append(calls, someCall(r.Intn, last))
		}
		replies, m := engine.Model(calls...)
		for range 3 {
			x := style.New()
			for rest := calls; len(rest) > 0; {
				n := 1 + r.Intn(min(len(rest), 9))
				x.Learn(rest[:n]...)
				rest = rest[n:]
				x.Lead(r.Intn(9) == 0)
				if r.Intn(9) == 0 {
					x.Reply(replies[r.Intn(len(replies))].Id)
				}
				wantModel(t, x, calls, names()...)
			}
			x.Lead(true)
			var kept []api.Reply
			for _, want := range m.Replies() {
				got, _ := x.Reply(want.Id)
				kept = append(kept, got)
			}
			if x.Done() != len(calls) || !slices.EqualFunc(kept, m.Replies(), alike) {
				t.Fatalf("%d done of %s", x.Done(), inWords(calls))
			}
			for _, g := range m.Groups() {
				want, _ := m.State(g.Name)
				if got, n, there := x.At(g.Name); !there || n != len(calls) || !exact(got, want) {
					t.Fatalf("At(%q): %s, %d, %v; wanted %s", g.Name, value.Text(got), n, there, value.Text(want))
				}
			}
		}
	}
}

// FuzzLife holds any life against P19.1 and P19.2: its bytes are what is picked.
func FuzzLife(f *testing.F) {
	for seed := range int64(8) {
		b := make([]byte, 300)
		rand.New(rand.NewSource(seed)).Read(b)
		f.Add(b)
	}
	f.Fuzz(func(t *testing.T, b []byte) {
		b = b[:min(len(b), 400)]
		pick := func(n int) int {
			if len(b) == 0 {
				return 0
			}
			first := b[0]
			b = b[1:]
			return int(first) % n
		}
		p, last := newPair(t), map[uint32]uint32{}
		for len(b) > 0 {
			p.step(pick, last)
		}
	})
}
