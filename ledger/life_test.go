package ledger_test

import (
	"math"
	"slices"
	"sync"
	"testing"

	"choir/api"
	"choir/args"
	"choir/ledger"
	"choir/value"
)

// The example: open("a"), deposit("a", 2): 2.0.
func TestExample(t *testing.T) {
	begin, _ := args.Start("ledger")
	opened := list(has("a", 0))
	wantDo(t, begin, "open", []api.Value{text("a")}, opened, api.Value{})
	wantDo(t, opened, "deposit", []api.Value{text("a"), whole(2)}, list(has("a", 2)), float(2))
}

// P12.1: ledgers with the same accounts are the same, in whatever order these
// were opened; emptied, one is as it began.
func TestSameWhateverTheWay(t *testing.T) {
	begin, _ := args.Start("ledger")
	for _, step := range []int{1, 3, 5, 7, 13, 31} {
		now := begin
		for i := range api.MaxKeys {
			n := i * step % api.MaxKeys
			now, _, _ = ledger.Do(now, "open", []api.Value{text(key(n))})
			if n > 0 {
				now, _, _ = ledger.Do(now, "deposit", []api.Value{text(key(n)), whole(int64(n))})
			}
		}
		if !exact(now, numbered(api.MaxKeys)) {
			t.Fatalf("by %d: %s", step, value.Text(now))
		}
		for i := 1; i < api.MaxKeys; i++ {
			n := i * step % api.MaxKeys
			now, _, _ = ledger.Do(now, "transfer", []api.Value{text(key(n)), text(key(0)), whole(int64(n))})
			now, _, _ = ledger.Do(now, "close", []api.Value{text(key(n))})
		}
		if all := api.MaxKeys * (api.MaxKeys - 1) / 2; !exact(now, list(has(key(0), float64(all)))) {
			t.Fatalf("by %d: %s", step, value.Text(now))
		}
		now, _, _ = ledger.Do(now, "open", []api.Value{text("sink")})
		now, _, _ = ledger.Do(now, "transfer", []api.Value{text(key(0)), text("sink"), now.L[0].L[1]})
		now, _, err := ledger.Do(now, "close", []api.Value{text(key(0))})
		if err != api.OK || len(now.L) != 1 || now.L[0].L[0].S != "sink" {
			t.Fatalf("by %d: %s is left, %v", step, value.Text(now), err)
		}
	}
	now, _, _ := ledger.Do(numbered(1), "close", []api.Value{text(key(0))})
	if !exact(now, begin) || now.L != nil {
		t.Errorf("%s is left", value.Text(now))
	}
}

// P12.3: no account has what it hasn't: transfers of amounts that floats tell
// without rounding leave the total as it was, whether they are done or not.
func TestNoneHasWhatItHasnt(t *testing.T) {
	now := numbered(8)
	total := func() float64 {
		_, sum, _ := ledger.Do(now, "total", nil)
		return sum.F
	}
	all, done, refused := total(), 0, 0
	for i := range 4000 {
		a, b, n := key(i*7%8), key(i*i%5), float64(i%13)/8
		was, _ := had(now, a)
		then, left, err := ledger.Do(now, "transfer", []api.Value{text(a), text(b), float(n)})
		switch {
		case n == 0 && err == api.ErrRange, was < n && err == api.ErrFunds:
			refused++
			continue
		case n == 0 || was < n || err != api.OK:
			t.Fatalf("%d: %v of %v: %v", i, n, was, err)
		}
		now, done = then, done+1
		if has, _ := had(now, a); has != left.F || has < 0 || !ledger.Right(now) || total() != all {
			t.Fatalf("%d: %s", i, value.Text(now))
		}
	}
	if done < 100 || refused < 100 {
		t.Errorf("%d done, %d refused", done, refused)
	}
}

// P12.2: an account that is emptied has the positive nought, and may be closed,
// or filled again; many parts that were put in come out again.
func TestEmptied(t *testing.T) {
	for _, f := range holdings()[1:] {
		now := list(has("a", f), has("b", 0))
		for range 3 {
			now, _, _ = ledger.Do(now, "transfer", []api.Value{text("a"), text("b"), float(f)})
			if !exact(now, list(has("a", 0), has("b", f))) {
				t.Fatalf("%v: %s", f, value.Text(now))
			}
			wantDo(t, now, "close", []api.Value{text("a")}, list(has("b", f)), api.Value{})
			wantError(t, "emptied", now, "transfer", []api.Value{text("a"), text("b"), float(least)}, api.ErrFunds)
			now, _, _ = ledger.Do(now, "transfer", []api.Value{text("b"), text("a"), float(f)})
		}
	}
}

// spoil changes all memory that hangs on v, the spare room included.
func spoil(v api.Value) {
	room := v.L[:cap(v.L)]
	for i := range room {
		spoil(room[i])
		room[i] = text("spoilt")
	}
}

// P12.1: the state then and what is answered are new memory: spoiling one of
// them, or a part of one, changes neither the other, nor what was handed in.
func TestAnswersAreNewMemory(t *testing.T) {
	same := map[string][]api.Value{"the same": {text(key(1)), text(key(1)), whole(1)}}
	for what, l := range calls() {
		same[what] = l
	}
	for what, l := range same {
		method, given := what, numbered(4)
		if what == "the same" {
			method = "transfer"
		}
		then, answer, err := ledger.Do(given, method, l)
		if err != api.OK {
			t.Fatalf("%s: %v", what, err)
		}
		wantThen, wantAnswer := value.Clone(then), value.Clone(answer)
		spoil(then.L[0])
		if !exact(then.L[1], wantThen.L[1]) || !exact(then.L[2], wantThen.L[2]) {
			t.Errorf("%s: accounts of the state then share memory", what)
		}
		spoil(then)
		if !exact(answer, wantAnswer) {
			t.Errorf("%s: the answer shares the memory of the state then", what)
		}
		then, answer, _ = ledger.Do(given, method, l)
		spoil(answer)
		if !exact(then, wantThen) {
			t.Errorf("%s: the state then shares the memory of the answer", what)
		}
		if !exact(given, numbered(4)) {
			t.Errorf("%s: what was handed in shares memory with what is answered", what)
		}
	}
}

// P12.1: what is handed in isn't changed, nor the spare room behind it.
func TestLeavesWhatIsHandedIn(t *testing.T) {
	given := func() []api.Value {
		return []api.Value{crowd(has("j", 0)), crowd(has("k", 2)), crowd(has("l", 3)), has("m", 0), stray(9)}
	}
	for _, a := range []string{"a", "j", "jj", "k", "l", "ll", "m", "z"} {
		for _, b := range []string{"j", "k", "l", "z"} {
			handed := func() []api.Value {
				return []api.Value{crowd(text(a)), crowd(text(b)), crowd(float(0.5)), text("behind"), stray(9)}
			}
			for n := range 5 {
				was, l := given(), handed()
				for method, right := range calls() {
					mine := slices.Clone(l[:len(right)])
					if method == "deposit" {
						mine[1] = l[2]
					}
					ledger.Do(api.Value{Kind: api.List, L: was[:n]}, method, mine)
					ledger.Do(api.Value{Kind: api.List, L: was[:n:n]}, method, l[:len(right):len(right)])
					ledger.Do(api.Value{Kind: api.List, L: was[:n]}, method, l[:len(right)])
				}
				ledger.Right(api.Value{Kind: api.List, L: was[:n]})
				if !slices.EqualFunc(was, given(), exact) || !slices.EqualFunc(l, handed(), exact) {
					t.Errorf("%q, %q, %d accounts: what was handed in was changed", a, b, n)
				}
			}
		}
	}
}

// P12.1: what is answered hangs on the arguments alone, whoever else calls.
func TestManyAtOnce(t *testing.T) {
	var all sync.WaitGroup
	was := numbered(4)
	for range 8 {
		all.Go(func() {
			for range 50 {
				wantDo(t, was, "open", []api.Value{text("k01x")}, with(was, "k01x", 0), api.Value{})
				wantDo(t, was, "transfer", []api.Value{text(key(3)), text(key(0)), whole(2)}, with(with(was, key(3), 1), key(0), 2), float(1))
				wantDo(t, was, "total", nil, was, float(6))
				wantError(t, "at once", was, "close", []api.Value{text(key(1))}, api.ErrFunds)
				wantError(t, "at once", was, "none", nil, api.ErrBadArgs)
			}
		})
	}
	all.Wait()
}

// numbers: what the fuzzed calls move, small and great, and what is no amount.
func numbers() []api.Value {
	return []api.Value{
		whole(1), float(0.1), float(0.2), float(least), float(1e16), whole(math.MaxInt64), whole(1<<53 + 1), float(0x1p970), float(greatest / 3), float(greatest),
		whole(0), whole(-1), float(0), float(minusNought()), float(math.Inf(1)), float(math.NaN()),
	}
}

// FuzzLife holds a ledger, call by call, against a map: four bytes a call.
func FuzzLife(f *testing.F) {
	f.Add([]byte("\x00a\x00\x00\x00b\x00\x00\x02a\x00\x00\x03ab\x00\x01a\x00\x00\x03ab\x00\x01b\x00\x00\x04a\x00\x00"))
	f.Add([]byte("\x00a\x00\x00\x00b\x00\x00\x02a\x00\x09\x02a\x00\x09\x02b\x00\x09\x03ab\x09\x03aa\x09\x03ba\x02\x03ac\x0a\x03ac\x01"))
	var many []byte
	for i := range byte(40) {
		many = append(many, 0, 255-i, 0, 0, 2, 255-i, 0, i, 3, 255-i, 255-i/2, i/2)
	}
	f.Add(many)
	f.Fuzz(func(t *testing.T, b []byte) {
		now, model := list(), map[string]float64{}
		for ; len(b) >= 4; b = b[4:] {
			a, other, n := string(b[1:2]), string(b[2:3]), numbers()[int(b[3])%len(numbers())]
			switch b[0] % 5 {
			case 0:
				now = openAlike(t, now, model, a)
			case 1:
				now = closeAlike(t, now, model, a)
			case 2:
				now = depositAlike(t, now, model, a, n)
			case 3:
				now = transferAlike(t, now, model, a, other, n)
			case 4:
				balanceAlike(t, now, model, a)
			}
			holds(t, now, model)
		}
	})
}

func openAlike(t *testing.T, now api.Value, model map[string]float64, name string) api.Value {
	t.Helper()
	l := []api.Value{text(name)}
	switch _, there := model[name]; {
	case there:
		wantError(t, "there", now, "open", l, api.ErrExists)
		return now
	case len(model) == api.MaxKeys:
		wantError(t, "full", now, "open", l, api.ErrFull)
		return now
	}
	model[name] = 0
	return done(t, now, "open", l, api.Value{})
}

func closeAlike(t *testing.T, now api.Value, model map[string]float64, name string) api.Value {
	t.Helper()
	l := []api.Value{text(name)}
	switch f, there := model[name]; {
	case !there:
		wantError(t, "not there", now, "close", l, api.ErrBadRef)
		return now
	case f > 0:
		wantError(t, "more than 0", now, "close", l, api.ErrFunds)
		return now
	}
	delete(model, name)
	return done(t, now, "close", l, api.Value{})
}

func depositAlike(t *testing.T, now api.Value, model map[string]float64, name string, n api.Value) api.Value {
	t.Helper()
	l, more := []api.Value{text(name), n}, floatOf(n)
	switch f, there := model[name]; {
	case !(more > 0) || math.IsInf(more, 0):
		wantError(t, "no amount", now, "deposit", l, api.ErrRange)
		return now
	case !there:
		wantError(t, "not there", now, "deposit", l, api.ErrBadRef)
		return now
	case math.IsInf(f+more, 0):
		wantError(t, "over the greatest", now, "deposit", l, api.ErrRange)
		return now
	}
	model[name] += more
	return done(t, now, "deposit", l, float(model[name]))
}

func transferAlike(t *testing.T, now api.Value, model map[string]float64, a, b string, n api.Value) api.Value {
	t.Helper()
	l, more := []api.Value{text(a), text(b), n}, floatOf(n)
	f, thereA := model[a]
	g, thereB := model[b]
	switch {
	case !(more > 0) || math.IsInf(more, 0):
		wantError(t, "no amount", now, "transfer", l, api.ErrRange)
		return now
	case !thereA || !thereB:
		wantError(t, "not there", now, "transfer", l, api.ErrBadRef)
		return now
	case f < more:
		wantError(t, "too few", now, "transfer", l, api.ErrFunds)
		return now
	case a == b:
		return done(t, now, "transfer", l, float(f))
	case math.IsInf(g+more, 0):
		wantError(t, "over the greatest", now, "transfer", l, api.ErrRange)
		return now
	}
	model[a], model[b] = f-more, g+more
	return done(t, now, "transfer", l, float(f-more))
}

func balanceAlike(t *testing.T, now api.Value, model map[string]float64, name string) {
	t.Helper()
	if f, there := model[name]; there {
		wantDo(t, now, "balance", []api.Value{text(name)}, now, float(f))
	} else {
		wantError(t, "not there", now, "balance", []api.Value{text(name)}, api.ErrBadRef)
	}
}

// floatOf gives a number as the Float nearest to it.
func floatOf(n api.Value) float64 {
	if n.Kind == api.Int {
		return float64(n.I)
	}
	return n.F
}

// done asks for the answer, and gives the state then.
func done(t *testing.T, now api.Value, method string, l []api.Value, want api.Value) api.Value {
	t.Helper()
	then, answer, err := ledger.Do(now, method, l)
	if err != api.OK || !exact(answer, want) {
		t.Fatalf("%s(%s) of %.80s: %s, %v; wanted %s", method, value.Text(list(l...)), value.Text(now), value.Text(answer), err, value.Text(want))
	}
	return then
}

// holds asks for a ledger that is Right and has what a map has.
func holds(t *testing.T, now api.Value, model map[string]float64) {
	t.Helper()
	if !ledger.Right(now) || len(now.L) != len(model) {
		t.Fatalf("%.80s isn't Right, or not of %d", value.Text(now), len(model))
	}
	all := list()
	for _, v := range now.L {
		if f, there := model[v.L[0].S]; !there || !exact(v.L[1], float(f)) {
			t.Fatalf("%s: not what was put", value.Text(v))
		}
		all.L = append(all.L, v.L[0])
	}
	wantDo(t, now, "names", nil, now, all)
}
