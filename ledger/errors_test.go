package ledger_test

import (
	"slices"
	"strings"
	"testing"

	"choir/api"
	"choir/args"
)

// calls: right calls of each method.
func calls() map[string][]api.Value {
	k, l := text(key(0)), text(key(1))
	return map[string][]api.Value{
		"balance": {k}, "close": {k}, "deposit": {k, whole(1)}, "names": nil, "open": {text("new")}, "total": nil, "transfer": {l, k, whole(1)},
	}
}

// P12.1: calls has each of the methods, and each is done.
func TestCalls(t *testing.T) {
	for _, method := range args.Methods("ledger") {
		was, l := numbered(2), calls()[method]
		then := map[string]api.Value{
			"balance": was, "close": without(was, key(0)), "deposit": with(was, key(0), 1), "names": was, "open": with(was, "new", 0), "total": was,
			"transfer": list(has(key(0), 1), has(key(1), 0)),
		}[method]
		answer := map[string]api.Value{"balance": float(0), "deposit": float(1), "names": list(text(key(0)), text(key(1))), "total": float(1), "transfer": float(0)}[method]
		wantDo(t, was, method, l, then, answer)
	}
}

// P12.1, P12.2: a state that isn't Right is ErrBadArgs, whatever else is wrong.
func TestWrongState(t *testing.T) {
	tooLong, k := long(api.MaxText+1), text("k")
	for what, state := range wrongStates() {
		for method, l := range calls() {
			wantError(t, what, state, method, l, api.ErrBadArgs)
		}
		wantError(t, what, state, "none", nil, api.ErrBadArgs)
		wantError(t, what, state, "balance", []api.Value{tooLong}, api.ErrBadArgs)
		wantError(t, what, state, "balance", []api.Value{text("no")}, api.ErrBadArgs)
		wantError(t, what, state, "open", []api.Value{k}, api.ErrBadArgs)
		wantError(t, what, state, "close", []api.Value{k}, api.ErrBadArgs)
		wantError(t, what, state, "deposit", []api.Value{k, whole(0)}, api.ErrBadArgs)
		wantError(t, what, state, "transfer", []api.Value{k, k, float(greatest)}, api.ErrBadArgs)
		wantError(t, what, state, "transfer", []api.Value{k, tooLong, whole(0)}, api.ErrBadArgs)
	}
}

// fault: what is no argument, and args.Check's error of it where a name is
// taken, and where a number is.
type fault struct {
	what         string
	v            api.Value
	name, number api.Errno
}

func faults() []fault {
	return []fault{
		{"nil", api.Value{}, api.ErrBadArgs, api.ErrBadArgs},
		{"an Int", whole(1), api.ErrBadArgs, api.OK},
		{"an Int, crowded", crowd(whole(1)), api.ErrBadArgs, api.OK},
		{"a Float", float(1), api.ErrBadArgs, api.OK},
		{"a list", list(text("k")), api.ErrBadArgs, api.ErrBadArgs},
		{"an empty list", list(), api.ErrBadArgs, api.ErrBadArgs},
		{"an empty text", text(""), api.ErrBadArgs, api.ErrBadArgs},
		{"a number's text", text("1"), api.OK, api.ErrBadArgs},
		{"a text of MaxName + 1", long(api.MaxName + 1), api.ErrBadArgs, api.ErrBadArgs},
		{"a text of MaxText", long(api.MaxText), api.ErrBadArgs, api.ErrBadArgs},
		{"a text of MaxText + 1", long(api.MaxText + 1), api.ErrSize, api.ErrSize},
		{"of no kind", stray(5), api.ErrBadArgs, api.ErrBadArgs},
		{"of no kind, below", stray(-1), api.ErrBadArgs, api.ErrBadArgs},
		{"no kind in a list", list(stray(9)), api.ErrBadArgs, api.ErrBadArgs},
		{"a list of MaxItems + 1", times(api.MaxItems+1, api.Value{}), api.ErrSize, api.ErrSize},
		{"lists of MaxDepth + 1", nested(api.MaxDepth+1, whole(1)), api.ErrSize, api.ErrSize},
		{"a value of MaxSize + 1", filled(api.MaxSize + 1), api.ErrSize, api.ErrSize},
		{"a list that holds itself", ring(), api.ErrSize, api.ErrSize},
	}
}

// P12.1, P12.2: args.Check's error of an argument comes ahead of what is no
// amount, of a name that isn't there, and of all else.
func TestWrongArguments(t *testing.T) {
	for _, c := range faults() {
		for _, state := range []api.Value{list(), numbered(2), numbered(api.MaxKeys)} {
			wantWrong(t, c, state)
		}
	}
	tooLong, noKind, k := long(api.MaxText+1), stray(9), text(key(1))
	for _, c := range []struct {
		l    []api.Value
		want api.Errno
	}{
		{[]api.Value{tooLong, noKind, whole(1)}, api.ErrSize},
		{[]api.Value{noKind, tooLong, whole(1)}, api.ErrBadArgs},
		{[]api.Value{k, noKind, tooLong}, api.ErrBadArgs},
		{[]api.Value{k, k, tooLong}, api.ErrSize},
		{[]api.Value{whole(1), k, tooLong}, api.ErrSize},
	} {
		wantError(t, "several", numbered(2), "transfer", c.l, c.want)
	}
}

func wantWrong(t *testing.T, c fault, state api.Value) {
	t.Helper()
	k := text(key(1))
	if c.name != api.OK {
		for _, method := range []string{"balance", "close", "open"} {
			wantError(t, c.what, state, method, []api.Value{c.v}, c.name)
		}
		for _, n := range []api.Value{whole(1), whole(0), float(greatest)} {
			wantError(t, c.what, state, "deposit", []api.Value{c.v, n}, c.name)
			wantError(t, c.what, state, "transfer", []api.Value{c.v, k, n}, c.name)
			wantError(t, c.what, state, "transfer", []api.Value{k, c.v, n}, c.name)
		}
	}
	if c.number != api.OK {
		for _, name := range []api.Value{k, text("no")} {
			wantError(t, c.what, state, "deposit", []api.Value{name, c.v}, c.number)
			wantError(t, c.what, state, "transfer", []api.Value{name, k, c.v}, c.number)
			wantError(t, c.what, state, "transfer", []api.Value{k, name, c.v}, c.number)
		}
	}
	for _, method := range []string{"names", "total"} {
		wantError(t, c.what, state, method, []api.Value{c.v}, api.ErrBadArgs)
	}
}

// P12.1, P12.2: another number of arguments is ErrBadArgs, with nothing beside.
func TestWrongCounts(t *testing.T) {
	for method, right := range calls() {
		for n := range 2 * api.MaxArgs {
			if n != len(right) {
				wantError(t, "another count", numbered(2), method, slices.Repeat([]api.Value{text(key(0))}, n), api.ErrBadArgs)
				wantError(t, "another count", numbered(api.MaxKeys), method, slices.Repeat([]api.Value{text(key(0))}, n), api.ErrBadArgs)
			}
		}
	}
	// A right call with one more, or one less.
	for method, right := range calls() {
		wantError(t, "one more", numbered(2), method, append(slices.Clone(right), whole(1)), api.ErrBadArgs)
		if len(right) > 0 {
			wantError(t, "one less", numbered(2), method, right[1:], api.ErrBadArgs)
			wantError(t, "one less", numbered(2), method, right[:len(right)-1], api.ErrBadArgs)
		}
	}
}

// P12.1, P12.2: no such method, other classes' ones too, is ErrBadArgs.
func TestNoSuchMethod(t *testing.T) {
	names := []string{"", " ", "Open", "OPEN", "open ", " open", "opens", "ope", "open*", "close*", "open\x00", "\x00", "\xff", "withdraw", "name", "ledger", "ledger.open", strings.Repeat("open", 5000)}
	for _, class := range args.Classes() {
		names = append(names, args.Methods(class)...)
	}
	for _, method := range names {
		if method == "total" {
			continue // a counter's, too
		}
		if _, own := calls()[method]; own {
			continue
		}
		for n := range 4 {
			wantError(t, "no such method", numbered(2), method, slices.Repeat([]api.Value{text(key(0))}, n), api.ErrBadArgs)
		}
	}
}

// P12.1, P12.2: what is no amount is ErrRange, whether the names are there or
// not, and whatever they have.
func TestNoAmount(t *testing.T) {
	for _, n := range noAmounts() {
		for _, state := range []api.Value{list(), numbered(2), numbered(api.MaxKeys), list(has(key(0), greatest), has(key(1), greatest))} {
			for _, v := range []api.Value{n, crowd(n)} {
				for _, a := range []string{key(0), key(1), "no"} {
					wantError(t, "no amount", state, "deposit", []api.Value{text(a), v}, api.ErrRange)
					for _, b := range []string{key(0), key(1), "nor"} {
						wantError(t, "no amount", state, "transfer", []api.Value{text(a), text(b), v}, api.ErrRange)
					}
				}
			}
		}
	}
}

// P12.2: ErrBadRef of a name that isn't there comes ahead of ErrFunds, and of a
// sum that isn't finite.
func TestBadRef(t *testing.T) {
	for _, state := range ledgers() {
		for _, name := range append(inOrder(), "k0", "k00x", "K", "kk", "no", key(api.MaxKeys)) {
			if _, there := had(state, name); there {
				continue
			}
			no := text(name)
			wantError(t, "not there", state, "balance", []api.Value{no}, api.ErrBadRef)
			wantError(t, "not there", state, "close", []api.Value{no}, api.ErrBadRef)
			for _, n := range amounts() {
				wantError(t, "not there", state, "deposit", []api.Value{no, n.v}, api.ErrBadRef)
				wantError(t, "neither there", state, "transfer", []api.Value{no, text("nor"), n.v}, api.ErrBadRef)
				for _, v := range state.L[:min(2, len(state.L))] {
					wantError(t, "a not there", state, "transfer", []api.Value{no, v.L[0], n.v}, api.ErrBadRef)
					wantError(t, "b not there", state, "transfer", []api.Value{v.L[0], no, n.v}, api.ErrBadRef)
				}
			}
		}
	}
}

// P12.1, P12.2: an account that was closed isn't there any more, until it is
// opened again; then it has 0.0.
func TestClosedIsNotThere(t *testing.T) {
	k, was := text(key(0)), numbered(3)
	gone := without(was, key(0))
	wantDo(t, was, "close", []api.Value{k}, gone, api.Value{})
	for method, l := range map[string][]api.Value{"balance": {k}, "close": {k}, "deposit": {k, whole(1)}, "transfer": {k, text(key(1)), whole(1)}} {
		wantError(t, "closed", gone, method, l, api.ErrBadRef)
	}
	wantError(t, "closed", gone, "transfer", []api.Value{text(key(1)), k, whole(1)}, api.ErrBadRef)
	wantDo(t, gone, "open", []api.Value{k}, was, api.Value{})
}
