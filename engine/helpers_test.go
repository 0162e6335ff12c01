package engine_test

import (
	"fmt"
	"math"
	"slices"
	"strings"
	"testing"

	"choir/api"
	"choir/engine"
	"choir/opid"
	"choir/value"
)

// canonNaN: the bits of the one NaN that is answered.
const canonNaN uint64 = 0x7ff8000000000001

func whole(i int64) api.Value { return api.Value{Kind: api.Int, I: i} }

func float(f float64) api.Value { return api.Value{Kind: api.Float, F: f} }

func nan(bits uint64) api.Value { return float(math.Float64frombits(bits)) }

func text(s string) api.Value { return api.Value{Kind: api.Text, S: s} }

func long(n int) api.Value { return text(strings.Repeat("x", n)) }

func list(l ...api.Value) api.Value { return api.Value{Kind: api.List, L: l} }

func times(n int, v api.Value) api.Value { return list(slices.Repeat([]api.Value{v}, n)...) }

func stray(kind int) api.Value { return api.Value{Kind: kind, I: 1, F: 1, S: "a"} }

// nested gives v in n lists.
func nested(n int, v api.Value) api.Value {
	for range n {
		v = list(v)
	}
	return v
}

// filled gives a list of size bytes on the wire, in texts.
func filled(size int) api.Value {
	v := list()
	for left := size - 2; left > 0; left -= min(left, 203) {
		v.L = append(v.L, long(min(left, 203)-3))
	}
	return v
}

// ring gives a list that holds itself.
func ring() api.Value {
	v := list(text("a"), api.Value{})
	v.L[1] = v
	return v
}

// crowd fills the fields that v's kind hasn't, and tells NaNs by other bits.
func crowd(v api.Value) api.Value {
	c := api.Value{Kind: v.Kind, I: 7, F: math.Inf(-1), S: "crowd", L: []api.Value{text("x"), stray(9)}}
	switch v.Kind {
	case api.Int:
		c.I = v.I
	case api.Float:
		c.F = v.F
		if math.IsNaN(v.F) {
			c.F = math.Float64frombits(0xfff0000000000123)
		}
	case api.Text:
		c.S = v.S
	case api.List:
		c.L = nil
		for _, item := range v.L {
			c.L = append(c.L, crowd(item))
		}
	}
	return c
}

// spoil overwrites a list to its last corner, and the room behind it.
func spoil(l []api.Value) {
	l = l[:cap(l)]
	for i := range l {
		spoil(l[i].L)
		l[i] = stray(77)
	}
}

// exact holds two values against each other field by field, floats by bits.
func exact(a, b api.Value) bool {
	return a.Kind == b.Kind && a.I == b.I && math.Float64bits(a.F) == math.Float64bits(b.F) && a.S == b.S && slices.EqualFunc(a.L, b.L, exact)
}

func alike(a, b api.Reply) bool { return a.Id == b.Id && a.Err == b.Err && exact(a.V, b.V) }

// told: replies in words.
func told(l ...api.Reply) string {
	var words []string
	for _, r := range l {
		words = append(words, fmt.Sprintf("%s (%v, %.200s)", opid.Text(r.Id), r.Err, value.Text(r.V)))
	}
	return strings.Join(words, ", ")
}

func root(client, seq uint32) api.OpId { return api.OpId{Client: client, Seq: seq} }

func within(id api.OpId, nest uint16) api.OpId {
	id.Nest = nest
	return id
}

func op(id api.OpId, group, method string, l ...api.Value) api.Op {
	return api.Op{Id: id, Group: group, Method: method, Args: l}
}

// aStep gives a step as a value.
func aStep(group, method string, behind ...api.Value) api.Value {
	return list(append([]api.Value{text(group), text(method)}, behind...)...)
}

// failed gives what a run is told of an error.
func failed(err api.Errno) api.Value { return list(text("error"), whole(int64(err))) }

func made(name, class string, style int, version uint32) api.Group {
	return api.Group{Name: name, Class: class, Style: style, Version: version}
}

// key: names whose order is that of their numbers.
func key(i int) string { return fmt.Sprintf("k%02d", i) }

// seat: an engine, and a client that calls it, call by call.
type seat struct {
	t    *testing.T
	e    *engine.Engine
	last api.OpId
}

// sit gives a new engine with groups that are made by its client: a name and a
// class each.
func sit(t *testing.T, groups ...string) *seat {
	t.Helper()
	s := &seat{t: t, e: engine.New(), last: root(1, 0)}
	for i := 0; i < len(groups); i += 2 {
		s.want(api.Value{}, "groups", "create", text(groups[i]), text(groups[i+1]), text("active"))
	}
	return s
}

// call makes the client's next call.
func (s *seat) call(group, method string, l ...api.Value) api.Reply {
	s.last.Seq++
	return s.e.Apply(op(s.last, group, method, l...))
}

// want makes a call that is to be done, and to answer v.
func (s *seat) want(v api.Value, group, method string, l ...api.Value) {
	s.t.Helper()
	done := s.e.Done()
	r := s.call(group, method, l...)
	if want := (api.Reply{Id: s.last, V: v}); !alike(r, want) {
		s.t.Errorf("%s.%s: %s; wanted %s", group, method, told(r), told(want))
	}
	if s.e.Done() != done+1 {
		s.t.Errorf("%s.%s: %d done, and before it %d", group, method, s.e.Done(), done)
	}
}

// wantError makes a call that is to be done, to come to an error, and to change
// nothing but for its reply.
func (s *seat) wantError(err api.Errno, group, method string, l ...api.Value) {
	s.t.Helper()
	done, states := s.e.Done(), statesOf(s.e)
	r := s.call(group, method, l...)
	if want := (api.Reply{Id: s.last, Err: err}); !alike(r, want) {
		s.t.Errorf("%s.%s: %s; wanted %s", group, method, told(r), told(want))
	}
	if s.e.Done() != done+1 || statesOf(s.e) != states {
		s.t.Errorf("%s.%s: %s, %d done; before it %s, %d", group, method, statesOf(s.e), s.e.Done(), states, done)
	}
}

func (s *seat) wantState(name string, want api.Value) {
	s.t.Helper()
	wantState(s.t, s.e, name, want)
}

// statesOf: the groups, with their objects' states, in words.
func statesOf(e *engine.Engine) string {
	var words strings.Builder
	for _, g := range e.Groups() {
		state, there := e.State(g.Name)
		fmt.Fprintf(&words, "%v: %s, %v; ", g, value.Text(state), there)
	}
	return words.String()
}

// all: all that an engine tells, in words.
func all(e *engine.Engine) string {
	return fmt.Sprintf("%s%d done, %s", statesOf(e), e.Done(), told(e.Replies()...))
}

func wantState(t *testing.T, e *engine.Engine, name string, want api.Value) {
	t.Helper()
	if got, there := e.State(name); !there || !exact(got, want) {
		t.Errorf("State(%q): %.300s, %v; wanted %.300s", name, value.Text(got), there, value.Text(want))
	}
}

func wantNoState(t *testing.T, e *engine.Engine, names ...string) {
	t.Helper()
	for _, name := range names {
		if got, there := e.State(name); there || !exact(got, api.Value{}) {
			t.Errorf("State(%.100q): %s, %v; wanted none", name, value.Text(got), there)
		}
	}
}

func wantGroups(t *testing.T, e *engine.Engine, want ...api.Group) {
	t.Helper()
	if got := e.Groups(); !slices.Equal(got, want) {
		t.Errorf("Groups: %v; wanted %v", got, want)
	}
}

func wantReplies(t *testing.T, e *engine.Engine, want ...api.Reply) {
	t.Helper()
	if got := e.Replies(); !slices.EqualFunc(got, want, alike) {
		t.Errorf("Replies: %s; wanted %s", told(got...), told(want...))
	}
}

// wantSame makes a call that is not to be done: it is to be answered so, and
// nothing is to change.
func wantSame(t *testing.T, e *engine.Engine, o api.Op, want api.Reply) {
	t.Helper()
	before := all(e)
	if got := e.Apply(o); !alike(got, want) {
		t.Errorf("%.100q.%.100q: %s; wanted %s", o.Group, o.Method, told(got), told(want))
	}
	if now := all(e); now != before {
		t.Errorf("%.100q.%.100q: %s; before it %s", o.Group, o.Method, now, before)
	}
}
