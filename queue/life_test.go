package queue_test

import (
	"slices"
	"sync"
	"testing"

	"choir/api"
	"choir/args"
	"choir/queue"
	"choir/value"
)

// The example: push(1), pop: 1.
func TestExample(t *testing.T) {
	begin, _ := args.Start("queue")
	wantDo(t, begin, "push", []api.Value{whole(1)}, list(whole(1)), whole(1))
	wantDo(t, list(whole(1)), "pop", nil, list(), whole(1))
}

// P11.3: what was pushed first is popped first: all in one go, for each count.
func TestFirstPushedFirstPopped(t *testing.T) {
	for n := range api.MaxKeys + 1 {
		now, _ := args.Start("queue")
		for i := range n {
			now = pushed(t, now, whole(int64(i*7%api.MaxKeys)))
		}
		for i := range n {
			then, v, err := queue.Do(now, "pop", nil)
			if err != api.OK || !exact(v, whole(int64(i*7%api.MaxKeys))) {
				t.Fatalf("%d of %d: %s, %v", i, n, value.Text(v), err)
			}
			now = then
		}
		if begin, _ := args.Start("queue"); !exact(now, begin) || now.L != nil {
			t.Fatalf("%d: %s is left", n, value.Text(now))
		}
	}
}

// P11.3: by turns, so that far more go through than may be there at once.
func TestFirstPushedFirstPoppedByTurns(t *testing.T) {
	for ahead := range api.MaxKeys {
		now, next := list(), int64(0)
		for range ahead {
			now = pushed(t, now, whole(next))
			next++
		}
		for popped := range int64(3 * api.MaxKeys) {
			now = pushed(t, now, whole(next))
			next++
			then, v, err := queue.Do(now, "pop", nil)
			if err != api.OK || v.I != popped || len(then.L) != ahead {
				t.Fatalf("%d ahead: %s, %d left, %v; wanted %d", ahead, value.Text(v), len(then.L), err, popped)
			}
			now = then
		}
	}
}

// P11.3: values that are alike stay as many as were pushed, in their places.
func TestAlikeOnesKeepTheirPlaces(t *testing.T) {
	row := []api.Value{text("a"), text("b"), text("a"), {}, {}, nan(canonNaN), nan(canonNaN), whole(0), float(0), text("a")}
	now := list()
	for _, v := range row {
		now = pushed(t, now, v)
	}
	for i, v := range row {
		wantDo(t, now, "nth", []api.Value{whole(0)}, now, v)
		wantDo(t, now, "pop", nil, list(row[i+1:]...), v)
		now, _, _ = queue.Do(now, "pop", nil)
	}
}

// pushed gives the state behind a push that has room.
func pushed(t *testing.T, now, v api.Value) api.Value {
	t.Helper()
	then, many, err := queue.Do(now, "push", []api.Value{v})
	if err != api.OK || !queue.Right(then) || !exact(many, whole(int64(len(now.L)+1))) {
		t.Fatalf("push(%.40s) on %.80s: %.80s, %s, %v", value.Text(v), value.Text(now), value.Text(then), value.Text(many), err)
	}
	return then
}

// spoil changes all memory that hangs on v, the spare room included.
func spoil(v api.Value) {
	room := v.L[:cap(v.L)]
	for i := range room {
		spoil(room[i])
		room[i] = text("spoilt")
	}
}

// shared gives a list that has one and the same list in it three times.
func shared() api.Value {
	inner := list(whole(1), nan(canonNaN))
	return list(inner, inner, list(inner))
}

// P11.1: the state then and what is answered are new memory: spoiling one of
// them, or a part of one, changes neither the other, nor what was handed in.
func TestAnswersAreNewMemory(t *testing.T) {
	was := func() api.Value {
		one := shared()
		return list(one, one, shared(), one)
	}
	for method, l := range map[string][]api.Value{"len": nil, "nth": {whole(1)}, "peek": nil, "pop": nil, "push": {shared()}} {
		given := was()
		then, answer, err := queue.Do(given, method, l)
		if err != api.OK {
			t.Fatalf("%s: %v", method, err)
		}
		wantThen, wantAnswer := value.Clone(then), value.Clone(answer)
		spoil(then.L[0].L[0])
		if first := then.L[0]; !exact(first.L[1], shared().L[1]) || !exact(first.L[2], shared().L[2]) || !exact(then.L[1], shared()) {
			t.Errorf("%s: lists of the state then share memory", method)
		}
		spoil(then)
		if !exact(answer, wantAnswer) {
			t.Errorf("%s: the answer shares the memory of the state then", method)
		}
		then, answer, _ = queue.Do(given, method, l)
		spoil(answer)
		if !exact(then, wantThen) {
			t.Errorf("%s: the state then shares the memory of the answer", method)
		}
		if !exact(given, was()) || method == "push" && !exact(l[0], shared()) {
			t.Errorf("%s: what was handed in shares memory with what is answered", method)
		}
	}
}

// P11.1: a queue that is pushed into itself is kept apart from what it was.
func TestPushedIntoItself(t *testing.T) {
	was := list(list(whole(1)))
	then, _, err := queue.Do(was, "push", []api.Value{was})
	if want := list(list(whole(1)), list(list(whole(1)))); err != api.OK || !exact(then, want) {
		t.Fatalf("%s, %v", value.Text(then), err)
	}
	spoil(then.L[1])
	if !exact(then.L[0], list(whole(1))) || !exact(was, list(list(whole(1)))) {
		t.Errorf("%s: memory is shared", value.Text(then))
	}
}

// P11.1: what is handed in isn't changed, nor the spare room behind it.
func TestLeavesWhatIsHandedIn(t *testing.T) {
	given := func() []api.Value {
		return []api.Value{crowd(list(whole(1))), crowd(nan(0xfff0000000000123)), crowd(list()), text("behind"), stray(9)}
	}
	handed := func(v api.Value) []api.Value { return []api.Value{crowd(v), text("behind"), stray(9)} }
	for _, v := range []api.Value{whole(0), whole(1), whole(-1), list(nan(0x7ff0000000000001)), filled(api.MaxSize)} {
		for n := range 4 {
			was, l := given(), handed(v)
			for method, right := range calls() {
				queue.Do(api.Value{Kind: api.List, L: was[:n]}, method, l[:len(right)])
				queue.Do(api.Value{Kind: api.List, L: was[:n:n]}, method, l[:len(right):len(right)])
			}
			queue.Right(api.Value{Kind: api.List, L: was[:n]})
			if !slices.EqualFunc(was, given(), exact) || !slices.EqualFunc(l, handed(v), exact) {
				t.Errorf("%.40s, %d items: what was handed in was changed", value.Text(v), n)
			}
		}
	}
}

// P11.1: two pushes onto one state don't meet in its spare room.
func TestTwoPushesOntoOne(t *testing.T) {
	was := api.Value{Kind: api.List, L: append(make([]api.Value, 0, 8), whole(0), whole(1))}
	for range 2 {
		a, _, _ := queue.Do(was, "push", []api.Value{text("a")})
		b, _, _ := queue.Do(was, "push", []api.Value{text("b")})
		if !exact(a, with(numbered(2), text("a"))) || !exact(b, with(numbered(2), text("b"))) {
			t.Fatalf("%s, %s", value.Text(a), value.Text(b))
		}
		was = pushed(t, list(), whole(0))
		was = pushed(t, was, whole(1))
	}
}

// P11.1: what is answered hangs on the arguments alone, whoever else calls.
func TestManyAtOnce(t *testing.T) {
	var all sync.WaitGroup
	was := numbered(4)
	for range 8 {
		all.Go(func() {
			for range 50 {
				wantDo(t, was, "push", []api.Value{whole(4)}, numbered(5), whole(5))
				wantDo(t, was, "pop", nil, list(was.L[1:]...), whole(0))
				wantDo(t, was, "nth", []api.Value{whole(3)}, was, whole(3))
				wantError(t, "at once", was, "nth", []api.Value{whole(4)}, api.ErrPanic)
				wantError(t, "at once", was, "none", nil, api.ErrBadArgs)
			}
		})
	}
	all.Wait()
}

// values: what the fuzzed calls push, small and great.
func values() []api.Value {
	return []api.Value{{}, whole(1), nan(canonNaN), text("v"), long(api.MaxText), nested(api.MaxDepth-1, whole(1)), nested(api.MaxDepth, whole(1)), filled(1500), filled(api.MaxSize)}
}

// FuzzLife holds a queue, call by call, against a row: two bytes a call.
func FuzzLife(f *testing.F) {
	f.Add([]byte("\x00\x01\x00\x02\x02\x00\x01\x00\x02\x01\x01\x00\x01\x00\x00\x07\x00\x07\x00\x07"))
	f.Add([]byte("\x00\x06\x00\x05\x00\x08\x02\x00\x02\xff\x02\x80"))
	var many []byte
	for i := range byte(40) {
		many = append(many, 0, i%5, 2, i)
	}
	f.Add(append(many, slices.Repeat([]byte{1, 0}, 40)...))
	f.Fuzz(func(t *testing.T, b []byte) {
		now, row := list(), []api.Value(nil)
		for ; len(b) >= 2; b = b[2:] {
			switch b[0] % 3 {
			case 0:
				now, row = pushAlike(t, now, row, values()[int(b[1])%len(values())])
			case 1:
				now, row = popAlike(t, now, row)
			case 2:
				nthAlike(t, now, row, int64(int8(b[1])))
			}
			if !queue.Right(now) || !slices.EqualFunc(now.L, row, exact) {
				t.Fatalf("%.80s isn't Right, or not the row", value.Text(now))
			}
			wantDo(t, now, "len", nil, now, whole(int64(len(row))))
		}
	})
}

func pushAlike(t *testing.T, now api.Value, row []api.Value, v api.Value) (api.Value, []api.Value) {
	t.Helper()
	then := with(now, v)
	if len(row) == api.MaxKeys || value.Check(then) != api.OK {
		wantError(t, "full", now, "push", []api.Value{v}, api.ErrFull)
		return now, row
	}
	wantDo(t, now, "push", []api.Value{v}, then, whole(int64(len(row)+1)))
	now, _, _ = queue.Do(now, "push", []api.Value{v})
	return now, append(row, v)
}

func popAlike(t *testing.T, now api.Value, row []api.Value) (api.Value, []api.Value) {
	t.Helper()
	if len(row) == 0 {
		wantDo(t, now, "pop", nil, list(), api.Value{})
		wantDo(t, now, "peek", nil, list(), api.Value{})
		return now, row
	}
	wantDo(t, now, "peek", nil, now, row[0])
	wantDo(t, now, "pop", nil, list(row[1:]...), row[0])
	now, _, _ = queue.Do(now, "pop", nil)
	return now, row[1:]
}

func nthAlike(t *testing.T, now api.Value, row []api.Value, i int64) {
	t.Helper()
	if i < 0 || i >= int64(len(row)) {
		wantError(t, "there is none", now, "nth", []api.Value{whole(i)}, api.ErrPanic)
	} else {
		wantDo(t, now, "nth", []api.Value{whole(i)}, now, row[i])
	}
}
