package style_test

import (
	"fmt"
	"math"
	"slices"
	"strings"
	"testing"

	"choir/api"
	"choir/engine"
	"choir/opid"
	"choir/style"
	"choir/value"
)

// canonNaN: the bits of the one NaN that is answered.
const canonNaN uint64 = 0x7ff8000000000001

func whole(i int64) api.Value { return api.Value{Kind: api.Int, I: i} }

func float(f float64) api.Value { return api.Value{Kind: api.Float, F: f} }

func nan(bits uint64) api.Value { return float(math.Float64frombits(bits)) }

func text(s string) api.Value { return api.Value{Kind: api.Text, S: s} }

func long(n int) api.Value { return text(strings.Repeat("x", n)) }

func list(l ...api.Value) api.Value { return api.Value{Kind: api.List, L: l} }

func times(n int, v api.Value) api.Value { return list(slices.Repeat([]api.Value{v}, n)...) }

func stray(kind int) api.Value { return api.Value{Kind: kind, I: 1, F: 1, S: "a"} }

// nested gives v in n lists.
func nested(n int, v api.Value) api.Value {
	for range n {
		v = list(v)
	}
	return v
}

// ring gives a list that holds itself.
func ring() api.Value {
	v := list(text("a"), api.Value{})
	v.L[1] = v
	return v
}

// copied gives v with all its fields, in new memory.
func copied(v api.Value) api.Value {
	v.L = slices.Clone(v.L)
	for i, item := range v.L {
		v.L[i] = copied(item)
	}
	return v
}

// spoil overwrites a list to its last corner, and the room behind it.
func spoil(l []api.Value) {
	l = l[:cap(l)]
	for i := range l {
		spoil(l[i].L)
		l[i] = stray(77)
	}
}

// exact holds two values against each other field by field, floats by bits.
func exact(a, b api.Value) bool {
	return a.Kind == b.Kind && a.I == b.I && math.Float64bits(a.F) == math.Float64bits(b.F) && a.S == b.S && slices.EqualFunc(a.L, b.L, exact)
}

func alike(a, b api.Reply) bool { return a.Id == b.Id && a.Err == b.Err && exact(a.V, b.V) }

func sameCall(a, b api.Op) bool {
	return a.Id == b.Id && a.Group == b.Group && a.Method == b.Method && slices.EqualFunc(a.Args, b.Args, exact)
}

func root(client, seq uint32) api.OpId { return api.OpId{Client: client, Seq: seq} }

func within(id api.OpId, nest uint16) api.OpId {
	id.Nest = nest
	return id
}

func op(id api.OpId, group, method string, l ...api.Value) api.Op {
	return api.Op{Id: id, Group: group, Method: method, Args: l}
}

// aStep gives a step as a value.
func aStep(group, method string, behind ...api.Value) api.Value {
	return list(append([]api.Value{text(group), text(method)}, behind...)...)
}

// seat: a replica, and a client whose calls it learns.
type seat struct {
	t    *testing.T
	r    *style.Replica
	last api.OpId
}

// sit gives a new replica that has done the making of these groups: a name, a
// class and a style each.
func sit(t *testing.T, groups ...string) *seat {
	t.Helper()
	s := &seat{t: t, r: style.New(), last: root(1, 0)}
	for i := 0; i < len(groups); i += 3 {
		s.r.Learn(s.create(groups[i], groups[i+1], groups[i+2]))
	}
	s.want(len(groups)/3, len(groups)/3)
	return s
}

// call gives the client's next call.
func (s *seat) call(group, method string, l ...api.Value) api.Op {
	s.last.Seq++
	return op(s.last, group, method, l...)
}

func (s *seat) create(name, class, style string) api.Op {
	return s.call("groups", "create", text(name), text(class), text(style))
}

func (s *seat) restyle(name, style string) api.Op {
	return s.call("groups", "style", text(name), text(style))
}

func (s *seat) destroy(name string) api.Op { return s.call("groups", "destroy", text(name)) }

// push gives the client's next call, which pushes its own Seq.
func (s *seat) push(group string) api.Op {
	return s.call(group, "push", whole(int64(s.last.Seq)+1))
}

// pushes gives n calls of the group.
func (s *seat) pushes(n int, group string) []api.Op {
	var l []api.Op
	for range n {
		l = append(l, s.push(group))
	}
	return l
}

// want asks for how many calls are known, and done.
func (s *seat) want(known, done int) {
	s.t.Helper()
	if s.r.Known() != known || s.r.Done() != done {
		s.t.Errorf("%d known, %d done; wanted %d, %d", s.r.Known(), s.r.Done(), known, done)
	}
}

// wantAt asks for the state of a group that is there.
func (s *seat) wantAt(group string, want api.Value, done int) {
	s.t.Helper()
	if got, n, there := s.r.At(group); !there || n != done || !exact(got, want) {
		s.t.Errorf("At(%q): %.300s, %d, %v; wanted %.300s, %d", group, value.Text(got), n, there, value.Text(want), done)
	}
}

// wantNotAt asks for no state of groups that aren't there.
func (s *seat) wantNotAt(done int, groups ...string) {
	s.t.Helper()
	for _, group := range groups {
		if got, n, there := s.r.At(group); there || n != done || !exact(got, api.Value{}) {
			s.t.Errorf("At(%.100q): %.300s, %d, %v; wanted none, %d", group, value.Text(got), n, there, done)
		}
	}
}

// wantReply asks for a reply that is there.
func (s *seat) wantReply(want api.Reply) {
	s.t.Helper()
	if got, there := s.r.Reply(want.Id); !there || !alike(got, want) {
		s.t.Errorf("Reply(%s): %s, %v; wanted %s", opid.Text(want.Id), told(got), there, told(want))
	}
}

// wantNoReply asks for none to these ids.
func (s *seat) wantNoReply(ids ...api.OpId) {
	s.t.Helper()
	for _, id := range ids {
		if got, there := s.r.Reply(id); there || !alike(got, api.Reply{}) {
			s.t.Errorf("Reply(%s): %s, %v; wanted none", opid.Text(id), told(got), there)
		}
	}
}

// wantModel holds the replica against engine.Model of what it has done of these
// calls, which are all that it learnt. It asks for no reply that waits.
func wantModel(t *testing.T, r *style.Replica, calls []api.Op, names ...string) {
	t.Helper()
	_, m := engine.Model(calls[:r.Done()]...)
	for _, name := range names {
		want, wanted := m.State(name)
		if got, n, there := r.At(name); there != wanted || n != r.Done() || !exact(got, want) {
			t.Fatalf("At(%q): %.300s, %d, %v; wanted %.300s, %d, %v", name, value.Text(got), n, there, value.Text(want), r.Done(), wanted)
		}
	}
	waiting := calls[r.Done():]
	for _, want := range m.Replies() {
		if slices.ContainsFunc(waiting, func(o api.Op) bool { return o.Id.Client == want.Id.Client && o.Id.Seq == want.Id.Seq }) {
			continue
		}
		if got, there := r.Reply(want.Id); !there || !alike(got, want) {
			t.Fatalf("Reply(%s): %s, %v; wanted %s", opid.Text(want.Id), told(got), there, told(want))
		}
	}
}

// told: a reply in words.
func told(r api.Reply) string {
	return fmt.Sprintf("%s (%v, %.200s)", opid.Text(r.Id), r.Err, value.Text(r.V))
}

// inWords: calls in words.
func inWords(l []api.Op) string {
	var words []string
	for _, o := range l {
		words = append(words, fmt.Sprintf("%s %.40s.%.40s%.100s", opid.Text(o.Id), o.Group, o.Method, value.Text(list(o.Args...))))
	}
	return strings.Join(words, ", ")
}
