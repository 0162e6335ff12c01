package dedup_test

import (
	"fmt"
	"math"
	"slices"
	"strings"
	"testing"

	"choir/api"
	"choir/dedup"
	"choir/opid"
	"choir/value"
)

// canonNaN: the bits of the one NaN that is answered.
const canonNaN uint64 = 0x7ff8000000000001

func whole(i int64) api.Value { return api.Value{Kind: api.Int, I: i} }

func float(f float64) api.Value { return api.Value{Kind: api.Float, F: f} }

func nan(bits uint64) api.Value { return float(math.Float64frombits(bits)) }

func minusNought() api.Value { return float(math.Copysign(0, -1)) }

func text(s string) api.Value { return api.Value{Kind: api.Text, S: s} }

func list(l ...api.Value) api.Value { return api.Value{Kind: api.List, L: l} }

func stray(kind int) api.Value { return api.Value{Kind: kind, I: 1, F: 1, S: "a"} }

// crowd fills the fields that v's kind hasn't, and tells NaNs by other bits.
func crowd(v api.Value) api.Value {
	c := api.Value{Kind: v.Kind, I: 7, F: math.Inf(-1), S: "crowd", L: []api.Value{text("x"), stray(9)}}
	switch v.Kind {
	case api.Int:
		c.I = v.I
	case api.Float:
		c.F = v.F
		if math.IsNaN(v.F) {
			c.F = math.Float64frombits(0xfff0000000000123)
		}
	case api.Text:
		c.S = v.S
	case api.List:
		c.L = nil
		for _, item := range v.L {
			c.L = append(c.L, crowd(item))
		}
	}
	return c
}

// spoil overwrites a list to its last corner, and the room behind it.
func spoil(l []api.Value) {
	l = l[:cap(l)]
	for i := range l {
		spoil(l[i].L)
		l[i] = stray(77)
	}
}

// exact holds two values against each other field by field, floats by bits.
func exact(a, b api.Value) bool {
	return a.Kind == b.Kind && a.I == b.I && math.Float64bits(a.F) == math.Float64bits(b.F) && a.S == b.S && slices.EqualFunc(a.L, b.L, exact)
}

func alike(a, b api.Reply) bool { return a.Id == b.Id && a.Err == b.Err && exact(a.V, b.V) }

// told: replies in words.
func told(l ...api.Reply) string {
	var words []string
	for _, r := range l {
		words = append(words, fmt.Sprintf("%s (%v, %.40q)", opid.Text(r.Id), r.Err, value.Text(r.V)))
	}
	return strings.Join(words, ", ")
}

func root(client, seq uint32) api.OpId { return api.OpId{Client: client, Seq: seq} }

func nested(client, seq uint32, nest uint16) api.OpId {
	return api.OpId{Client: client, Seq: seq, Nest: nest}
}

// answer gives a reply to id that no other id has.
func answer(id api.OpId) api.Reply { return api.Reply{Id: id, V: list(text(opid.Text(id)))} }

// answered gives a table to which the ids' answers were put, each of them the
// first time.
func answered(t *testing.T, ids ...api.OpId) *dedup.Table {
	t.Helper()
	d := dedup.New()
	for _, id := range ids {
		wantTaken(t, d, id)
	}
	return d
}

func roots(client uint32, seqs ...uint32) []api.OpId {
	var ids []api.OpId
	for _, seq := range seqs {
		ids = append(ids, root(client, seq))
	}
	return ids
}

func wantTaken(t *testing.T, d *dedup.Table, ids ...api.OpId) {
	t.Helper()
	for _, id := range ids {
		if !d.Put(answer(id)) {
			t.Errorf("Put(%s): false", opid.Text(id))
		}
	}
}

// wantRefused asks that nothing changes.
func wantRefused(t *testing.T, d *dedup.Table, ids ...api.OpId) {
	t.Helper()
	for _, id := range ids {
		before := d.All()
		if d.Put(api.Reply{Id: id, Err: api.ErrPanic, V: text("another one")}) {
			t.Errorf("Put(%s): true", opid.Text(id))
		}
		wantAll(t, d, before)
	}
}

// wantThere asks for the ids' answers.
func wantThere(t *testing.T, d *dedup.Table, ids ...api.OpId) {
	t.Helper()
	for _, id := range ids {
		wantReply(t, d, answer(id))
	}
}

func wantReply(t *testing.T, d *dedup.Table, want api.Reply) {
	t.Helper()
	if r, there, err := d.Look(want.Id); !there || err != api.OK || !alike(r, want) {
		t.Errorf("Look(%s): %s, %v, %v; wanted %s", opid.Text(want.Id), told(r), there, err, told(want))
	}
}

// wantOld asks for ErrOld, and nothing beside it.
func wantOld(t *testing.T, d *dedup.Table, ids ...api.OpId) {
	t.Helper()
	wantNothing(t, d, api.ErrOld, ids...)
}

// wantNone asks for nothing, without an error.
func wantNone(t *testing.T, d *dedup.Table, ids ...api.OpId) {
	t.Helper()
	wantNothing(t, d, api.OK, ids...)
}

func wantNothing(t *testing.T, d *dedup.Table, want api.Errno, ids ...api.OpId) {
	t.Helper()
	for _, id := range ids {
		if r, there, err := d.Look(id); there || err != want || !alike(r, api.Reply{}) {
			t.Errorf("Look(%s): %s, %v, %v; wanted none, %v", opid.Text(id), told(r), there, err, want)
		}
	}
}

// wantKept asks that the table has just the ids' answers, in this order.
func wantKept(t *testing.T, d *dedup.Table, ids ...api.OpId) {
	t.Helper()
	var want []api.Reply
	for _, id := range ids {
		want = append(want, answer(id))
	}
	wantAll(t, d, want)
	wantThere(t, d, ids...)
}

func wantAll(t *testing.T, d *dedup.Table, want []api.Reply) {
	t.Helper()
	if got := d.All(); !slices.EqualFunc(got, want, alike) {
		t.Errorf("All: %.500s; wanted %.500s", told(got...), told(want...))
	}
}

func wantLast(t *testing.T, d *dedup.Table, client, seq uint32) {
	t.Helper()
	if got, ok := d.Last(client); !ok || got != seq {
		t.Errorf("Last(%d): %d, %v; wanted %d", client, got, ok, seq)
	}
}

func wantNoLast(t *testing.T, d *dedup.Table, client uint32) {
	t.Helper()
	if got, ok := d.Last(client); ok || got != 0 {
		t.Errorf("Last(%d): %d, %v; wanted none", client, got, ok)
	}
}
