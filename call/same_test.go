package call_test

import (
	"math"
	"slices"
	"strings"
	"testing"

	"choir/api"
	"choir/call"
	"choir/value"
)

// P6.2: Same holds ids, names, how many args, and each arg by Order.
func TestSame(t *testing.T) {
	base := api.Op{Id: api.OpId{Client: 1, Seq: 2, Nest: 3}, Group: "g", Method: "m", Args: []api.Value{whole(1), text("a")}}
	change := func(do func(o *api.Op)) api.Op {
		o := base
		o.Args = slices.Clone(base.Args)
		do(&o)
		return o
	}
	if !call.Same(base, change(func(o *api.Op) {})) {
		t.Error("a call isn't the same as itself")
	}
	for what, do := range map[string]func(o *api.Op){
		"client":       func(o *api.Op) { o.Id.Client = 9 },
		"seq":          func(o *api.Op) { o.Id.Seq = 9 },
		"nest":         func(o *api.Op) { o.Id.Nest = 9 },
		"no nest":      func(o *api.Op) { o.Id.Nest = 0 },
		"group":        func(o *api.Op) { o.Group = "G" },
		"longer group": func(o *api.Op) { o.Group = "gg" },
		"no group":     func(o *api.Op) { o.Group = "" },
		"method":       func(o *api.Op) { o.Method = "n" },
		"no method":    func(o *api.Op) { o.Method = "" },
		"names turned": func(o *api.Op) { o.Group, o.Method = o.Method, o.Group },
		"first arg":    func(o *api.Op) { o.Args[0] = whole(2) },
		"last arg":     func(o *api.Op) { o.Args[1] = text("b") },
		"a float":      func(o *api.Op) { o.Args[0] = float(1) },
		"args turned":  func(o *api.Op) { slices.Reverse(o.Args) },
		"an arg less":  func(o *api.Op) { o.Args = o.Args[:1] },
		"no args":      func(o *api.Op) { o.Args = nil },
		"an arg more":  func(o *api.Op) { o.Args = append(o.Args, api.Value{}) },
	} {
		other := change(do)
		if call.Same(base, other) || call.Same(other, base) {
			t.Errorf("the same with another %s", what)
		}
		if !call.Same(other, other) {
			t.Errorf("with another %s: not the same as itself", what)
		}
	}
	if !call.Same(api.Op{}, api.Op{Args: []api.Value{}}) || !call.Same(api.Op{Args: []api.Value{}}, api.Op{}) {
		t.Error("no args and an empty list aren't the same")
	}
	if call.Same(api.Op{}, with(api.Value{})) || call.Same(with(), with(api.Value{})) || call.Same(with(api.Value{}), with()) {
		t.Error("no arg and nil are the same")
	}
}

// P6.2: an arg is alike where value.Order is 0: floats with their edges,
// nothing but what the kinds have, no kind as Nil.
func TestSameByOrder(t *testing.T) {
	const quietNaN, signedNaN = 0x7ff8000000000000, 0xfff8000000000001
	l := []api.Value{
		{}, {Kind: 9}, {Kind: -1}, {I: 7, S: "x"}, whole(0), whole(1), whole(math.MaxInt64), whole(math.MaxInt64 - 1), float(0), float(math.Copysign(0, -1)), float(1), float(math.Inf(1)), float(math.Inf(-1)),
		float(1 << 63), nan(quietNaN), nan(signedNaN), nan(0x7ff8000000000001), text(""), text("a"), text("A"), crowded(api.Nil), crowded(api.Int), whole(5), crowded(api.Float), crowded(api.Text), text("y"),
		list(), {Kind: api.List, L: []api.Value{}}, list(api.Value{}), list(float(0)), list(float(math.Copysign(0, -1))), list(nan(quietNaN)), list(nan(signedNaN)), crowded(api.List), list(text("z"), api.Value{}), ring(),
	}
	for _, a := range l {
		for _, b := range l {
			want := value.Order(a, b) == 0
			for _, at := range []int{0, 1, api.MaxArgs - 1, 40} {
				x, y := make([]api.Value, at+1), make([]api.Value, at+1)
				x[at], y[at] = a, b
				if call.Same(with(x...), with(y...)) != want {
					t.Errorf("Same by %+v, %+v: not %v", a, b, want)
				}
			}
		}
	}
	if call.Same(with(float(0)), with(float(math.Copysign(0, -1)))) || !call.Same(with(nan(quietNaN)), with(nan(signedNaN))) {
		t.Error("the noughts are the same, or the NaNs aren't")
	}
}

// P6.2: Clean gives the call with its args cleaned, whatever it is.
func TestClean(t *testing.T) {
	long := strings.Repeat("x", 70000)
	for _, c := range []struct{ o, want api.Op }{
		{api.Op{}, api.Op{}},
		{api.Op{Args: []api.Value{}}, api.Op{}},
		{with(), with()},
		{api.Op{Id: api.OpId{Client: 1, Seq: 2, Nest: 65535}, Group: long, Method: "\xff"}, api.Op{Id: api.OpId{Client: 1, Seq: 2, Nest: 65535}, Group: long, Method: "\xff"}},
		{with(crowded(api.Nil), crowded(api.Int), crowded(api.Float), crowded(api.Text), crowded(api.List)), with(api.Value{}, whole(5), float(math.Inf(1)), text("y"), list(text("z"), api.Value{}))},
		{with(nan(0x7ff0000000000001), list(nan(math.MaxUint64))), with(nan(0x7ff8000000000001), list(nan(0x7ff8000000000001)))},
		{with(float(math.Copysign(0, -1))), with(float(math.Copysign(0, -1)))},
		{with(crowded(9), crowded(-1), text(long)), with(api.Value{}, api.Value{}, text(long))},
		{with(slices.Repeat([]api.Value{crowded(api.Text)}, 300)...), with(slices.Repeat([]api.Value{text("y")}, 300)...)},
		{with(nested(64, crowded(api.Int))), with(nested(64, whole(5)))},
	} {
		if got := call.Clean(c.o); !exactCall(got, c.want) {
			t.Errorf("Clean(%.300v): %.300v", c.o, got)
		}
	}
	call.Clean(with(ring(), ring())) // ends
}

// P6.2: Clean changes nothing that is handed in, and shares none of it.
func TestCleanIsNewMemory(t *testing.T) {
	shared := []api.Value{text("in"), nan(math.MaxUint64)}
	room := []api.Value{list(shared...), list(shared...), crowded(api.Int), text("spare")}
	o := with(room[:3]...)
	got := call.Clean(o)
	if !exact(room[0], list(text("in"), nan(math.MaxUint64))) || !exact(room[2], crowded(api.Int)) || !exact(room[3], text("spare")) {
		t.Fatalf("Clean changed what was handed in: %+v", room)
	}
	got.Args[0].L[0] = text("another")
	_ = append(got.Args, text("behind"))
	want := with(list(text("another"), nan(0x7ff8000000000001)), list(text("in"), nan(0x7ff8000000000001)), whole(5))
	if !exactCall(got, want) || !exact(shared[0], text("in")) || !exact(room[3], text("spare")) {
		t.Errorf("lists of Clean's answer are shared: %+v, %+v", got, room)
	}
	clear(shared)
	clear(room)
	if !exactCall(got, want) {
		t.Errorf("Clean's answer shares what was handed in: %+v", got)
	}
}
