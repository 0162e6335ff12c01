package engine

import (
	"testing"

	"choir/api"
)

// P18.1, by the chapter's ways: what panics is recovered. Its reply is ErrPanic,
// and is put as any other one; the engine goes on.
func TestPanicsAreRecovered(t *testing.T) {
	e := New()
	id := api.OpId{Client: 1, Seq: 1}
	for _, with := range []any{"oh", 7, nil, api.ErrFull} {
		id.Seq++
		r := e.answer(id, func() (api.Value, api.Errno) { panic(with) })
		if r.Id != id || r.Err != api.ErrPanic || r.V.Kind != api.Nil {
			t.Errorf("%+v; wanted ErrPanic", r)
		}
		if again := e.Apply(api.Op{Id: id, Group: "groups", Method: "list"}); again.Id != id || again.Err != api.ErrPanic || e.Done() != 0 {
			t.Errorf("%+v, %d done; wanted ErrPanic again", again, e.Done())
		}
	}
	id.Seq++
	if r := e.Apply(api.Op{Id: id, Group: "groups", Method: "list"}); r.Err != api.OK || r.V.Kind != api.List || e.Done() != 1 {
		t.Errorf("%+v, %d done", r, e.Done())
	}
}
