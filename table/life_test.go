package table_test

import (
	"slices"
	"sync"
	"testing"

	"choir/api"
	"choir/args"
	"choir/table"
	"choir/value"
)

// play does the calls one by one, from the beginning, and gives the state.
func play(t *testing.T, all ...func(api.Value) (api.Value, api.Value, api.Errno)) api.Value {
	t.Helper()
	now, _ := args.Start("table")
	for _, do := range all {
		then, _, err := do(now)
		if err != api.OK || !table.Right(then) {
			t.Fatalf("of %.80s: %.80s, %v", value.Text(now), value.Text(then), err)
		}
		now = then
	}
	return now
}

func putting(name string, v api.Value) func(api.Value) (api.Value, api.Value, api.Errno) {
	return func(state api.Value) (api.Value, api.Value, api.Errno) {
		return table.Do(state, "put", []api.Value{text(name), v})
	}
}

func deleting(name string) func(api.Value) (api.Value, api.Value, api.Errno) {
	return func(state api.Value) (api.Value, api.Value, api.Errno) {
		return table.Do(state, "del", []api.Value{text(name)})
	}
}

// orders gives all orders of the numbers below n.
func orders(n int) [][]int {
	if n == 0 {
		return [][]int{nil}
	}
	var all [][]int
	for _, shorter := range orders(n - 1) {
		for at := range n {
			all = append(all, slices.Insert(slices.Clone(shorter), at, n-1))
		}
	}
	return all
}

// P10.3: tables with the same names and values are the same to the last bit,
// in whatever order they came, and whatever was there between.
func TestSameWhateverTheWay(t *testing.T) {
	names := []string{"a", "B", "aa", "\xff", "z"}
	want := list(entry("B", whole(1)), entry("a", whole(0)), entry("aa", whole(2)), entry("z", whole(4)), entry("\xff", whole(3)))
	for _, order := range orders(len(names)) {
		var straight, about []func(api.Value) (api.Value, api.Value, api.Errno)
		for _, i := range order {
			v := whole(int64(i))
			straight = append(straight, putting(names[i], v))
			about = append(about, putting("m", v), putting(names[i], text("old")), deleting("m"), putting(names[i], v))
		}
		about = append(about, deleting(names[order[0]]), putting(names[order[0]], whole(int64(order[0]))))
		for _, way := range []api.Value{play(t, straight...), play(t, about...)} {
			if !exact(way, want) || value.Order(way, want) != 0 {
				t.Fatalf("%v: %s", order, value.Text(way))
			}
		}
	}
}

// P10.3: a table of MaxKeys names, put forwards, backwards, and by turns, is
// one; emptied, it is as it began.
func TestSameWhenFull(t *testing.T) {
	begin, _ := args.Start("table")
	for _, step := range []int{1, 3, 5, 7, 13, 31} {
		now := begin
		for i := range api.MaxKeys {
			n := i * step % api.MaxKeys
			now, _, _ = table.Do(now, "put", []api.Value{text(key(n)), whole(int64(n))})
		}
		if !exact(now, numbered(api.MaxKeys)) {
			t.Fatalf("by %d: %s", step, value.Text(now))
		}
		for i := range api.MaxKeys {
			now, _, _ = table.Do(now, "del", []api.Value{text(key(i * step % api.MaxKeys))})
		}
		if !exact(now, begin) || now.L != nil {
			t.Fatalf("by %d: %s is left", step, value.Text(now))
		}
	}
}

// spoil changes all memory that hangs on v, the spare room included.
func spoil(v api.Value) {
	room := v.L[:cap(v.L)]
	for i := range room {
		spoil(room[i])
		room[i] = text("spoilt")
	}
}

// shared gives a list that has one and the same list in it three times.
func shared() api.Value {
	inner := list(whole(1), nan(canonNaN))
	return list(inner, inner, list(inner))
}

// P10.1: the state then and what is answered are new memory: spoiling one of
// them, or a part of one, changes neither the other, nor what was handed in.
func TestAnswersAreNewMemory(t *testing.T) {
	was := func() api.Value { return list(entry("j", shared()), entry("k", shared()), entry("l", shared())) }
	for what, l := range map[string][]api.Value{
		"get":       {text("k")},
		"del":       {text("k")},
		"del none":  {text("no")},
		"keys":      nil,
		"size":      nil,
		"put":       {text("k"), shared()},
		"put a new": {text("m"), shared()},
	} {
		method, given := what[:min(len(what), 3)], was()
		if len(l) == 0 {
			method = what
		}
		then, answer, err := table.Do(given, method, l)
		if err != api.OK {
			t.Fatalf("%s: %v", what, err)
		}
		wantThen, wantAnswer := value.Clone(then), value.Clone(answer)
		spoil(then.L[0].L[1].L[0])
		if v := then.L[0].L[1]; !exact(v.L[1], shared().L[1]) || !exact(v.L[2], shared().L[2]) || !exact(then.L[1], wantThen.L[1]) {
			t.Errorf("%s: lists of the state then share memory", what)
		}
		spoil(then)
		if !exact(answer, wantAnswer) {
			t.Errorf("%s: the answer shares the memory of the state then", what)
		}
		then, answer, _ = table.Do(given, method, l)
		spoil(answer)
		if !exact(then, wantThen) {
			t.Errorf("%s: the state then shares the memory of the answer", what)
		}
		if !exact(given, was()) || method == "put" && !exact(l[1], shared()) {
			t.Errorf("%s: what was handed in shares memory with what is answered", what)
		}
	}
}

// P10.1: a state that is one list in all places, put into itself, is kept apart.
func TestOneListInAllPlaces(t *testing.T) {
	was := list(entry("k", list(whole(1))))
	l := []api.Value{text("l"), was}
	then, _, err := table.Do(was, "put", l)
	want := list(was.L[0], entry("l", was))
	if err != api.OK || !exact(then, want) {
		t.Fatalf("%s, %v", value.Text(then), err)
	}
	spoil(then.L[1])
	if !exact(then.L[0], was.L[0]) || !exact(was, list(entry("k", list(whole(1))))) {
		t.Errorf("%s: memory is shared", value.Text(then))
	}
}

// P10.1: what is handed in isn't changed, nor the spare room behind it.
func TestLeavesWhatIsHandedIn(t *testing.T) {
	given := func() []api.Value {
		return []api.Value{crowd(entry("j", whole(1))), crowd(entry("k", nan(0xfff0000000000123))), crowd(entry("l", list())), entry("m", whole(2)), stray(9)}
	}
	handed := func(name string) []api.Value {
		return []api.Value{crowd(text(name)), crowd(list(nan(0x7ff0000000000001))), text("behind"), stray(9)}
	}
	for _, name := range []string{"a", "j", "jj", "k", "l", "ll", "z"} {
		for n := range 4 {
			was, l := given(), handed(name)
			for method, right := range calls() {
				table.Do(api.Value{Kind: api.List, L: was[:n]}, method, l[:len(right)])
				table.Do(api.Value{Kind: api.List, L: was[:n:n]}, method, l[:len(right):len(right)])
			}
			table.Right(api.Value{Kind: api.List, L: was[:n]})
			if !slices.EqualFunc(was, given(), exact) || !slices.EqualFunc(l, handed(name), exact) {
				t.Errorf("%q, %d entries: what was handed in was changed", name, n)
			}
		}
	}
}

// P10.1: what is answered hangs on the arguments alone, whoever else calls.
func TestManyAtOnce(t *testing.T) {
	var all sync.WaitGroup
	was, put := numbered(4), []api.Value{text("k01x"), whole(9)}
	then, _ := with(was, "k01x", whole(9))
	less, old := without(was, "k02")
	for range 8 {
		all.Go(func() {
			for range 50 {
				wantDo(t, was, "put", put, then, api.Value{})
				wantDo(t, was, "del", []api.Value{text("k02")}, less, old)
				wantDo(t, was, "keys", nil, was, keysOf(was))
				wantError(t, "at once", was, "none", put, api.ErrBadArgs)
			}
		})
	}
	all.Wait()
}

// values: what the fuzzed calls put, small and great.
func values() []api.Value {
	return []api.Value{{}, whole(1), nan(canonNaN), text("v"), long(api.MaxText), nested(api.MaxDepth-2, whole(1)), nested(api.MaxDepth, whole(1)), filled(1500), filled(api.MaxSize)}
}

// FuzzLife holds a table, call by call, against a map: three bytes a call.
func FuzzLife(f *testing.F) {
	f.Add([]byte("\x00a\x01\x00b\x02\x01a\x00\x02b\x00\x00b\x07\x00c\x07\x00d\x07"))
	f.Add([]byte("\x00a\x06\x00a\x05\x00b\x08\x02a\x01\x02a\x01"))
	var many []byte
	for i := range byte(40) {
		many = append(many, 0, 255-i, i%5)
	}
	f.Add(many)
	f.Fuzz(func(t *testing.T, b []byte) {
		now, model := list(), map[string]api.Value{}
		for ; len(b) >= 3; b = b[3:] {
			name, v := string(b[1:2]), values()[int(b[2])%len(values())]
			old, there := model[name]
			switch b[0] % 3 {
			case 0:
				then, answer, err := table.Do(now, "put", []api.Value{text(name), v})
				wanted, _ := with(now, name, v)
				if !there && len(model) == api.MaxKeys || value.Check(wanted) != api.OK {
					wantError(t, "full", now, "put", []api.Value{text(name), v}, api.ErrFull)
					break
				}
				if err != api.OK || !exact(answer, old) {
					t.Fatalf("put %q: %.80s, %v", name, value.Text(answer), err)
				}
				now, model[name] = then, v
			case 1:
				wantDo(t, now, "get", []api.Value{text(name)}, now, old)
			case 2:
				then, _ := without(now, name)
				wantDo(t, now, "del", []api.Value{text(name)}, then, old)
				now = then
				delete(model, name)
			}
			holds(t, now, model)
		}
	})
}

// holds asks for a table that is Right and has the names and values of a map.
func holds(t *testing.T, now api.Value, model map[string]api.Value) {
	t.Helper()
	if !table.Right(now) || len(now.L) != len(model) {
		t.Fatalf("%.80s isn't Right, or not of %d", value.Text(now), len(model))
	}
	for _, e := range now.L {
		if v, ok := model[e.L[0].S]; !ok || !exact(v, e.L[1]) {
			t.Fatalf("%.80s: not what was put", value.Text(e))
		}
	}
	wantDo(t, now, "size", nil, now, whole(int64(len(model))))
}
