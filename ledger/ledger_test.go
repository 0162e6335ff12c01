package ledger_test

import (
	"math"
	"slices"
	"strings"
	"testing"

	"choir/api"
	"choir/args"
	"choir/ledger"
	"choir/value"
)

// wrongStates: what isn't Right.
func wrongStates() map[string]api.Value {
	k := has("k", 1)
	states := map[string]api.Value{
		"nil":                         {},
		"an Int":                      whole(1),
		"a Float":                     float(1),
		"a text":                      text("[]"),
		"of no kind":                  stray(5),
		"of no kind, with accounts":   {Kind: 5, L: []api.Value{k}},
		"of no kind, below":           {Kind: -1, L: []api.Value{k}},
		"nil with accounts":           {L: []api.Value{k}},
		"a text with accounts":        {Kind: api.Text, L: []api.Value{k}},
		"an account alone":            k,
		"in one more list":            list(list(k)),
		"MaxKeys + 1":                 numbered(api.MaxKeys + 1),
		"MaxItems":                    numbered(api.MaxItems),
		"MaxItems + 1":                numbered(api.MaxItems + 1),
		"a nil account":               list(api.Value{}),
		"a nil account behind":        list(k, api.Value{}),
		"an Int's account":            list(whole(1)),
		"a text's account":            list(text("k")),
		"a text's account with a key": list(api.Value{Kind: api.Text, S: "k", L: k.L}),
		"an account of no kind":       list(api.Value{Kind: 9, L: k.L}),
		"an empty account":            list(list()),
		"a name alone":                list(list(text("k"))),
		"a Float alone":               list(list(float(1))),
		"a name with two Floats":      list(list(text("k"), float(1), float(2))),
		"a name with one nil more":    list(list(text("k"), float(1), api.Value{})),
		"the other way about":         list(list(float(1), text("k"))),
		"a nil name":                  list(list(api.Value{}, float(1))),
		"an Int's name":               list(list(whole(1), float(1))),
		"a list's name":               list(list(list(text("k")), float(1))),
		"an Int's name, crowded":      list(list(api.Value{Kind: api.Int, S: "k"}, float(1))),
		"a name of no kind":           list(list(api.Value{Kind: 9, S: "k"}, float(1))),
		"an empty name":               list(has("", 1)),
		"a name of MaxName + 1":       list(has(strings.Repeat("k", api.MaxName+1), 1)),
		"a wrong name behind":         list(k, has(strings.Repeat("l", api.MaxName+1), 1)),
		"a text of MaxText + 1":       list(has(strings.Repeat("k", api.MaxText+1), 1)),
		"one name twice":              list(k, k),
		"one name twice, others":      list(k, has("k", 2)),
		"one name twice, apart":       list(k, has("l", 1), k),
		"one name twice at the end":   list(has("a", 1), k, k),
		"out of order":                list(has("l", 1), k),
		"out of order at the end":     list(has("a", 1), has("c", 1), has("b", 1)),
		"order of letters":            list(has("a", 1), has("B", 2)),
		"order of numbers":            list(has("9", 1), has("10", 2)),
		"order of what they have":     list(has("z", 1), has("a", 2)),
		"a longer name ahead":         list(has("kk", 1), k),
		"a byte above 127 ahead":      list(has("\xff", 1), has("\x01", 1)),
		"has an Int":                  list(list(text("k"), whole(1))),
		"has an Int, crowded":         list(list(text("k"), api.Value{Kind: api.Int, I: 1, F: 1})),
		"has an Int behind":           list(k, list(text("l"), whole(0))),
		"has nil":                     list(list(text("k"), api.Value{})),
		"has nil, crowded":            list(list(text("k"), api.Value{F: 1})),
		"has a text":                  list(list(text("k"), text("1.0"))),
		"has a list":                  list(list(text("k"), list(float(1)))),
		"has what is of no kind":      list(list(text("k"), stray(9))),
		"a list that holds itself":    ring(),
		"an account that does":        list(ring()),
		"has what holds itself":       list(list(text("k"), ring())),
	}
	for _, f := range noHoldings() {
		states["has "+value.Text(float(f))] = list(has("k", f))
		states["the last one has "+value.Text(float(f))] = list(has("j", 0), k, has("l", f))
	}
	return states
}

// P12.1: Right is a List of at most MaxKeys names with Floats, in order.
func TestRight(t *testing.T) {
	for _, state := range ledgers() {
		if !ledger.Right(state) || !ledger.Right(crowd(state)) {
			t.Errorf("%.80s isn't Right", value.Text(state))
		}
	}
	if !ledger.Right(api.Value{Kind: api.List, L: []api.Value{}}) {
		t.Error("an empty list that isn't nil isn't Right")
	}
	if begin, _ := args.Start("ledger"); !ledger.Right(begin) {
		t.Error("what a ledger begins with isn't Right")
	}
	for what, state := range wrongStates() {
		if ledger.Right(state) || ledger.Right(crowdable(state)) {
			t.Errorf("%s is Right", what)
		}
	}
}

// crowdable gives v crowded, if it is a value that ends.
func crowdable(v api.Value) api.Value {
	if value.Check(v) != api.OK {
		return v
	}
	return crowd(v)
}

// P12.1: a state is Right, if its names are in order of their bytes, each once.
func TestRightOrder(t *testing.T) {
	names := inOrder()
	for i, a := range names {
		for j, b := range names {
			if got := ledger.Right(list(has(a, 1), has(b, 1))); got != (i < j) {
				t.Errorf("%q, %q: %v", a, b, got)
			}
		}
	}
}

// P12.1: names are args' names.
func TestRightNames(t *testing.T) {
	for n := range 2 * api.MaxName {
		name := long(n)
		if got, want := ledger.Right(list(list(name, float(1)))), args.Check("ledger", "balance", []api.Value{name}) == api.OK; got != want || want != (n >= 1 && n <= api.MaxName) {
			t.Errorf("a name of %d bytes: %v", n, got)
		}
	}
}

// P12.1: a ledger of MaxKeys of the longest names is a value.
func TestGreatestLedgerIsAValue(t *testing.T) {
	now := list()
	for i := range api.MaxKeys {
		name := strings.Repeat("n", api.MaxName-3) + key(i)
		now = with(now, name, greatest)
	}
	if len(now.L[0].L[0].S) != api.MaxName || !ledger.Right(now) || value.Check(now) != api.OK {
		t.Errorf("%d bytes: %v", value.Size(now), value.Check(now))
	}
}

// P12.1: open(a) holds a with 0.0 in its place, and answers nil.
func TestOpen(t *testing.T) {
	begin, _ := args.Start("ledger")
	wantDo(t, begin, "open", []api.Value{text("a")}, list(has("a", 0)), api.Value{})
	names := inOrder()
	for i, name := range names {
		was := list()
		for j, other := range names {
			if j != i {
				was.L = append(was.L, has(other, float64(j)))
			}
		}
		wantDo(t, was, "open", []api.Value{text(name)}, with(was, name, 0), api.Value{})
	}
	for n := range api.MaxKeys {
		was := numbered(n)
		for _, name := range []string{"a", "z", "k", "k0", "k05x", "k31x", key(n)} {
			wantDo(t, was, "open", []api.Value{text(name)}, with(was, name, 0), api.Value{})
		}
	}
}

// P12.1, P12.2: open of one that is there is ErrExists, whatever it has, also
// beside MaxKeys others.
func TestOpenExists(t *testing.T) {
	for _, was := range ledgers() {
		for _, v := range was.L {
			wantError(t, "it is there", was, "open", v.L[:1], api.ErrExists)
			wantError(t, "it is there", crowd(was), "open", []api.Value{crowd(v.L[0])}, api.ErrExists)
		}
	}
}

// P12.1, P12.2: open is ErrFull, if there are MaxKeys; one less, and it isn't.
func TestOpenMaxKeys(t *testing.T) {
	almost, full := numbered(api.MaxKeys-1), numbered(api.MaxKeys)
	for _, name := range []string{"a", "k", "k05x", "z", strings.Repeat("z", api.MaxName), key(api.MaxKeys)} {
		wantDo(t, almost, "open", []api.Value{text(name)}, with(almost, name, 0), api.Value{})
		wantError(t, "MaxKeys", full, "open", []api.Value{text(name)}, api.ErrFull)
		wantError(t, "MaxKeys", crowd(full), "open", []api.Value{crowd(text(name))}, api.ErrFull)
		room := without(full, key(7))
		wantDo(t, room, "open", []api.Value{text(name)}, with(room, name, 0), api.Value{})
	}
	wantDo(t, full, "close", []api.Value{text(key(0))}, without(full, key(0)), api.Value{})
}

// P12.1: close(a) takes a away, if it has no more than 0, and answers nil; else
// it is ErrFunds.
func TestClose(t *testing.T) {
	for _, was := range ledgers() {
		for _, v := range was.L {
			if v.L[1].F > 0 {
				wantError(t, "it has more than 0", was, "close", v.L[:1], api.ErrFunds)
				wantError(t, "it has more than 0", crowd(was), "close", []api.Value{crowd(v.L[0])}, api.ErrFunds)
			} else {
				wantDo(t, was, "close", v.L[:1], without(was, v.L[0].S), api.Value{})
			}
		}
	}
	for i := range api.MaxKeys {
		was := with(numbered(api.MaxKeys), key(i), 0)
		wantDo(t, was, "close", []api.Value{text(key(i))}, without(was, key(i)), api.Value{})
		was = with(was, key(i), least)
		wantError(t, "the least there is", was, "close", []api.Value{text(key(i))}, api.ErrFunds)
	}
}

// P12.1: deposit(a, n) gives a so much more, and answers what it has: IEEE's
// own sum, an Int as the Float nearest to it; ErrRange, if that isn't finite.
func TestDeposit(t *testing.T) {
	for _, f := range holdings() {
		for _, n := range amounts() {
			for _, was := range []api.Value{list(has("k", f)), list(has("a", 1), has("k", f), has("kk", greatest))} {
				l, more := []api.Value{text("k"), n.v}, f+n.f
				if math.IsInf(more, 0) {
					wantError(t, "over the greatest", was, "deposit", l, api.ErrRange)
				} else {
					wantDo(t, was, "deposit", l, with(was, "k", more), float(more))
				}
			}
		}
	}
}

// P12.1: the edges of deposits, written out.
func TestDepositEdges(t *testing.T) {
	for _, c := range []struct {
		what string
		f    float64
		n    api.Value
		want float64
	}{
		{"the document's example", 0, whole(2), 2},
		{"a Float", 0, float(0.5), 0.5},
		{"a tenth and two", 0.1, float(0.2), 0.30000000000000004},
		{"a tie to even", 1 << 53, float(1), 1 << 53},
		{"a tie to even, up", 1<<53 + 2, whole(1), 1<<53 + 4},
		{"an Int that is no Float", 0, whole(1<<53 + 1), 1 << 53},
		{"an Int that is no Float, up", 0, whole(1<<53 + 3), 1<<53 + 4},
		{"an Int is rounded by itself", 1, whole(1<<53 + 1), 1 << 53},
		{"the greatest Int", 0, whole(math.MaxInt64), 1 << 63},
		{"the least float", 0, float(least), least},
		{"the least float twice", least, float(least), 2 * least},
		{"up to the greatest", greatest / 2, float(greatest / 2), greatest},
		{"not half a step over", greatest, float(math.Nextafter(0x1p970, 0)), greatest},
		{"beside the greatest", greatest, whole(math.MaxInt64), greatest},
	} {
		wantDo(t, list(has("a", c.f)), "deposit", []api.Value{text("a"), c.n}, list(has("a", c.want)), float(c.want))
	}
	for what, n := range map[string]float64{"twice the greatest": greatest, "half a step over": 0x1p970} {
		wantError(t, what, list(has("a", greatest)), "deposit", []api.Value{text("a"), float(n)}, api.ErrRange)
	}
}

// P12.1: transfer(a, b, n) gives a so much less and b so much more, and answers
// what a has then; ErrFunds, if a has less than n; ErrRange, if b's isn't
// finite.
func TestTransfer(t *testing.T) {
	for _, f := range holdings() {
		for _, g := range holdings() {
			for _, n := range amounts() {
				// Both ways round: the one that gives stands ahead, and behind.
				for _, names := range [][2]string{{"a", "b"}, {"b", "a"}} {
					was := with(with(list(has("aa", 7), has("c", 8)), names[0], f), names[1], g)
					l := []api.Value{text(names[0]), text(names[1]), n.v}
					switch {
					case f < n.f:
						wantError(t, "too few", was, "transfer", l, api.ErrFunds)
					case math.IsInf(g+n.f, 0):
						wantError(t, "over the greatest", was, "transfer", l, api.ErrRange)
					default:
						wantDo(t, was, "transfer", l, with(with(was, names[0], f-n.f), names[1], g+n.f), float(f-n.f))
					}
				}
			}
		}
	}
}

// P12.1, P12.2: the edges of transfers, written out. All that there is may go:
// what is left is the positive nought.
func TestTransferEdges(t *testing.T) {
	for _, c := range []struct {
		what             string
		a, b             float64
		n                api.Value
		wantedA, wantedB float64
		wanted           api.Errno
	}{
		{what: "a half", a: 2, b: 1, n: float(0.5), wantedA: 1.5, wantedB: 1.5},
		{what: "an Int", a: 2, b: 0, n: whole(1), wantedA: 1, wantedB: 1},
		{what: "all", a: 2, b: 1, n: whole(2), wantedA: 0, wantedB: 3},
		{what: "all, the least", a: least, b: 0, n: float(least), wantedA: 0, wantedB: least},
		{what: "all, the greatest", a: greatest, b: 0, n: float(greatest), wantedA: 0, wantedB: greatest},
		{what: "a step more than all", a: 2, n: float(math.Nextafter(2, 3)), wanted: api.ErrFunds},
		{what: "a step less than all", a: 2, n: float(math.Nextafter(2, 1)), wantedA: 0x1p-52, wantedB: math.Nextafter(2, 1)},
		{what: "of nothing", a: 0, n: float(least), wanted: api.ErrFunds},
		{what: "an Int that is no Float, but all as one", a: 1 << 53, n: whole(1<<53 + 1), wantedA: 0, wantedB: 1 << 53},
		{what: "an Int that is no Float, and more as one", a: 1<<53 + 2, n: whole(1<<53 + 3), wanted: api.ErrFunds},
		{what: "the greatest Int, all as a Float", a: 1 << 63, n: whole(math.MaxInt64), wantedA: 0, wantedB: 1 << 63},
		{what: "too little to tell of a", a: 1e20, b: 0, n: float(0.1), wantedA: 1e20, wantedB: 0.1},
		{what: "too little to tell of b", a: 1, b: 1e20, n: float(0.1), wantedA: 0.9, wantedB: 1e20},
		{what: "a tenth less", a: 0.3, b: 0.1, n: float(0.1), wantedA: 0.19999999999999998, wantedB: 0.2},
		{what: "below the least normal", a: 0x1p-1022, n: float(least), wantedA: 0x1p-1022 - least, wantedB: least},
		{what: "b over the greatest", a: greatest, b: greatest, n: float(greatest), wanted: api.ErrRange},
		{what: "b half a step over", a: greatest, b: greatest, n: float(0x1p970), wanted: api.ErrRange},
		{what: "b not half a step over", a: 0x1p970, b: greatest, n: float(math.Nextafter(0x1p970, 0)), wantedA: 0x1p917, wantedB: greatest},
		{what: "too few, and b over the greatest", a: 0x1p970, b: greatest, n: float(0x1p971), wanted: api.ErrFunds},
	} {
		was, l := list(has("a", c.a), has("b", c.b)), []api.Value{text("a"), text("b"), c.n}
		if c.wanted != api.OK {
			wantError(t, c.what, was, "transfer", l, c.wanted)
		} else {
			wantDo(t, was, "transfer", l, list(has("a", c.wantedA), has("b", c.wantedB)), float(c.wantedA))
		}
	}
}

// P12.1: a transfer to the same account leaves all as it was, to the last bit,
// and answers what it has; more than it has is ErrFunds.
func TestTransferToTheSame(t *testing.T) {
	for _, f := range holdings() {
		was := list(has("a", 3), has("k", f), has("l", greatest))
		for _, n := range amounts() {
			l := []api.Value{text("k"), text("k"), n.v}
			if f < n.f {
				wantError(t, "too few", was, "transfer", l, api.ErrFunds)
			} else {
				wantDo(t, was, "transfer", l, was, float(f))
			}
		}
		for _, n := range noAmounts() {
			wantError(t, "no amount", was, "transfer", []api.Value{text("k"), text("k"), n}, api.ErrRange)
		}
	}
	wantError(t, "not there", numbered(2), "transfer", []api.Value{text("a"), text("a"), whole(1)}, api.ErrBadRef)
	f, n := 0.9, 0.2
	if f-n+n == f {
		t.Fatal("as many less and as many more would be as it was")
	}
	was := list(has("k", f))
	wantDo(t, was, "transfer", []api.Value{text("k"), text("k"), float(n)}, was, float(f))
}

// P12.1: balance answers what a name has, names a List of them in order, total
// 0.0 and all of them in order; the state stays.
func TestBalanceNamesTotal(t *testing.T) {
	for _, was := range ledgers() {
		all, sum := list(), 0.0
		for _, v := range was.L {
			all.L = append(all.L, v.L[0])
			sum += v.L[1].F
			wantDo(t, was, "balance", v.L[:1], was, v.L[1])
		}
		for _, none := range [][]api.Value{nil, {}} {
			wantDo(t, was, "names", none, was, all)
			wantDo(t, was, "total", none, was, float(sum))
		}
	}
	wantDo(t, list(), "names", nil, list(), list())
}

// P12.1: totals are reckoned from 0.0, in order of the names, rounded at each
// one; they may be an infinity.
func TestTotalEdges(t *testing.T) {
	for _, c := range []struct {
		has  []float64
		want float64
	}{
		{nil, 0},
		{[]float64{0}, 0},
		{[]float64{0, 0, 0}, 0},
		{[]float64{least, least}, 2 * least},
		{slices.Repeat([]float64{0.1}, 10), 0.9999999999999999},
		{[]float64{1e16, 1, 1}, 1e16},
		{[]float64{1, 1, 1e16}, 1e16 + 2},
		{[]float64{1, 1e16, 1}, 1e16},
		{[]float64{greatest, 1, greatest}, math.Inf(1)},
		{[]float64{greatest, 0x1p970}, math.Inf(1)},
		{[]float64{greatest, math.Nextafter(0x1p970, 0)}, greatest},
		{slices.Repeat([]float64{greatest}, api.MaxKeys), math.Inf(1)},
		{slices.Repeat([]float64{greatest / api.MaxKeys}, api.MaxKeys), greatest},
	} {
		was := list()
		for i, f := range c.has {
			was.L = append(was.L, has(key(i), f))
		}
		wantDo(t, was, "total", nil, was, float(c.want))
	}
}
