package object_test

import (
	"math"
	"strings"
	"testing"

	"choir/api"
	"choir/object"
	"choir/value"
)

// rights: states that a class's objects may hold, each in its clean form.
func rights(class string) []api.Value {
	switch class {
	case "counter":
		return counters()
	case "ledger":
		return ledgers()
	case "orch":
		return args(whole(0), whole(1), whole(2), whole(255), whole(256), whole(1<<40), whole(math.MaxInt64-1), whole(math.MaxInt64))
	case "queue":
		return queues()
	case "register":
		return registers()
	case "table":
		return tables()
	}
	return nil
}

func counters() []api.Value {
	var all []api.Value
	for _, total := range edges() {
		all = append(all, list(whole(0), total), list(whole(3), total), list(whole(math.MaxInt64), total))
	}
	return all
}

// edges: Floats, each of other bits than the others.
func edges() []api.Value {
	return args(
		float(0), minusNought(), nan(canonNaN), float(math.Inf(1)), float(math.Inf(-1)), float(0.5), float(-0.1),
		float(math.SmallestNonzeroFloat64), float(-math.SmallestNonzeroFloat64), float(math.MaxFloat64), float(1<<53),
	)
}

func ledgers() []api.Value {
	widest := list()
	for i := range api.MaxKeys {
		widest.L = append(widest.L, has(strings.Repeat("k", api.MaxName-1)+string(rune('0'+i)), float(math.MaxFloat64)))
	}
	return args(
		list(), list(has("a", float(0))), list(has("a", float(0.5)), has("b", float(math.SmallestNonzeroFloat64))), widest,
		list(has("\x00", float(1)), has("a", float(2)), has("aa", float(3)), has("b", float(4)), has("\xff", float(5))),
		numbered(api.MaxKeys-1, float(1)), numbered(api.MaxKeys, float(0)),
	)
}

func queues() []api.Value {
	return append(args(
		list(), list(api.Value{}), list(list()), times(api.MaxKeys-1, whole(1)), times(api.MaxKeys, api.Value{}),
		list(whole(1), text("a"), minusNought(), list(nan(canonNaN))), filled(api.MaxSize-1), filled(api.MaxSize), nested(api.MaxDepth, whole(1)),
	), list(edges()...))
}

func registers() []api.Value {
	return append(edges(),
		api.Value{}, whole(0), whole(-1), whole(1), whole(math.MinInt64), whole(math.MaxInt64),
		text(""), text("a"), text("\x00"), text("\xff\xfe"), long(255), long(api.MaxText),
		list(), list(api.Value{}), list(whole(1), list(text("a"), nan(canonNaN)), minusNought()), list(whole(0), float(0)),
		times(api.MaxItems, api.Value{}), nested(api.MaxDepth, api.Value{}), nested(api.MaxDepth-1, list()), filled(api.MaxSize), list(has("b", whole(1)), has("a", whole(2))),
	)
}

func tables() []api.Value {
	return args(
		list(), list(has("a", api.Value{})), list(has("a", float(0))), list(has("a", nan(canonNaN)), has("b", minusNought())),
		list(has("\x00", whole(1)), has("a", list()), has("aa", text("")), has("b", list(whole(1), text("x"))), has("\xff", whole(5))),
		list(has(strings.Repeat("k", api.MaxName), filled(3000))), list(has("k", nested(api.MaxDepth-2, whole(1)))),
		numbered(api.MaxKeys-1, text("v")), numbered(api.MaxKeys, whole(1)), list(has("k", filled(api.MaxSize-8))),
	)
}

// wrongs: states that the class's objects may not hold, though value.Check lets
// them through; none of register, which holds whatever that does.
func wrongs(class string) []api.Value {
	switch class {
	case "counter":
		return args(
			api.Value{}, whole(0), float(0), text("counter"), list(), list(whole(0)), list(float(0)), list(float(0), whole(0)), list(whole(0), whole(0)), list(float(0), float(0)),
			list(whole(0), float(0), float(0)), list(whole(-1), float(0)), list(whole(math.MinInt64), float(0)), list(text("0"), float(0)), list(whole(0), api.Value{}), list(list(whole(0), float(0))),
		)
	case "ledger":
		return append(noEntries(float(0)), list(has("a", whole(0))), list(has("a", minusNought())), list(has("a", float(-1))), list(has("a", nan(canonNaN))),
			list(has("a", float(math.Inf(1)))), list(has("a", float(math.Inf(-1)))), list(has("a", api.Value{})), list(has("a", float(0)), has("b", minusNought())))
	case "orch":
		return args(api.Value{}, whole(-1), whole(math.MinInt64), float(0), float(1), text("0"), text(""), list(), list(whole(0)), list(whole(0), float(0)))
	case "queue":
		return args(api.Value{}, whole(0), float(0), text("queue"), text(""), times(api.MaxKeys+1, api.Value{}), times(api.MaxItems, whole(1)))
	case "table":
		return noEntries(whole(0))
	}
	return nil
}

// noEntries: what is neither a table nor a ledger, with v where a value stands.
func noEntries(v api.Value) []api.Value {
	return args(
		api.Value{}, whole(0), float(0), text("a"), list(text("a"), v), list(api.Value{}), list(list()), list(list(text("a"))), list(list(text("a"), v, v)), list(list(whole(1), v)), list(list(v, text("a"))),
		list(has("", v)), list(has(strings.Repeat("k", api.MaxName+1), v)), list(has("b", v), has("a", v)), list(has("a", v), has("a", v)), list(has("aa", v), has("a", v)),
		numbered(api.MaxKeys+1, v),
	)
}

// fault: what no value is, and value.Check's error of it.
type fault struct {
	v   api.Value
	err api.Errno
}

func faults() []fault {
	return []fault{
		{stray(5), api.ErrBadArgs}, {stray(-1), api.ErrBadArgs}, {stray(math.MinInt), api.ErrBadArgs}, {list(whole(0), stray(9)), api.ErrBadArgs},
		{list(has("a", stray(9))), api.ErrBadArgs}, {long(api.MaxText + 1), api.ErrSize}, {long(1 << 17), api.ErrSize}, {list(long(api.MaxText + 1)), api.ErrSize},
		{list(has("a", long(api.MaxText+1))), api.ErrSize}, {times(api.MaxItems+1, api.Value{}), api.ErrSize}, {nested(api.MaxDepth+1, whole(1)), api.ErrSize},
		{nested(api.MaxDepth, list()), api.ErrSize}, {filled(api.MaxSize + 1), api.ErrSize}, {list(has("k", filled(api.MaxSize-7))), api.ErrSize}, {ring(), api.ErrSize},
	}
}

// P15.1: Right is the class's, of states with more than their kinds have too.
func TestRight(t *testing.T) {
	for _, class := range classes() {
		for _, v := range rights(class) {
			if !object.Right(class, v) || !object.Right(class, crowd(v)) {
				t.Errorf("Right(%s, %.80s): false", class, value.Text(v))
			}
		}
		for _, v := range wrongs(class) {
			if object.Right(class, v) || object.Right(class, crowd(v)) {
				t.Errorf("Right(%s, %.80s): true", class, value.Text(v))
			}
		}
		for i, f := range faults() {
			if object.Right(class, f.v) {
				t.Errorf("Right(%s, ..) of fault %d: true", class, i)
			}
		}
	}
}

// P15.1: what is in the one's form isn't in the other's: classes are told apart.
func TestRightOfOthers(t *testing.T) {
	for _, x := range []struct {
		state api.Value
		is    string
	}{
		{api.Value{}, "register"},
		{whole(3), "orch register"},
		{whole(-3), "register"},
		{float(0.5), "register"},
		{text("a"), "register"},
		{list(), "ledger queue register table"},
		{list(whole(0)), "queue register"},
		{list(whole(0), float(0)), "counter queue register"},
		{list(has("a", float(1))), "ledger queue register table"},
		{list(has("a", float(-1))), "queue register table"},
		{list(has("a", whole(1))), "queue register table"},
		{list(has("b", float(1)), has("a", float(1))), "queue register"},
		{times(api.MaxKeys+1, api.Value{}), "register"},
	} {
		for _, class := range classes() {
			want := strings.Contains(" "+x.is+" ", " "+class+" ")
			if got := object.Right(class, x.state); got != want {
				t.Errorf("Right(%s, %.80s): %v", class, value.Text(x.state), got)
			}
		}
	}
}

// P15.1: of no class nothing is Right.
func TestRightOfNoClass(t *testing.T) {
	for _, no := range noClasses() {
		for _, class := range classes() {
			for _, v := range rights(class) {
				if object.Right(no, v) {
					t.Errorf("Right(%.20q, %.80s): true", no, value.Text(v))
				}
			}
		}
		for i, f := range faults() {
			if object.Right(no, f.v) {
				t.Errorf("Right(%.20q, ..) of fault %d: true", no, i)
			}
		}
	}
}
