package object_test

import (
	"math"
	"testing"

	"choir/api"
	chk "choir/args"
	"choir/object"
	"choir/value"
)

// P15.2: a Snapshot is the object: it tells apart all states of all classes, and
// keeps apart nothing that value.Clean makes one.
func TestSnapshotsTellApart(t *testing.T) {
	type whose struct {
		class string
		state api.Value
	}
	seen := map[string]whose{}
	for _, class := range classes() {
		for _, state := range rights(class) {
			b := string(snapshot(t, class, state))
			if other, ok := seen[b]; ok {
				t.Errorf("%s, %.80s and %s, %.80s: one Snapshot", class, value.Text(state), other.class, value.Text(other.state))
			}
			seen[b] = whose{class, state}
		}
	}
	for b, x := range seen {
		for _, class := range classes() {
			if class == x.class {
				wantRestored(t, class, []byte(b), x.state)
			} else {
				wantNoBytes(t, class, []byte(b))
			}
		}
	}
}

// alike asks that both states are told the same by each of the class's methods.
func alike(t *testing.T, class string, a, b api.Value) {
	t.Helper()
	for _, method := range chk.Methods(class) {
		for _, l := range fitting() {
			thenA, answerA, errA := object.Do(class, a, method, l)
			thenB, answerB, errB := object.Do(class, b, method, l)
			if errA != errB || !exact(thenA, thenB) || !exact(answerA, answerB) {
				t.Errorf("%s, %.80s: %s(%.80s) isn't what it is behind Restore", class, value.Text(a), method, value.Text(list(l...)))
			}
		}
	}
}

// fitting: arguments for all methods.
func fitting() [][]api.Value {
	return [][]api.Value{
		nil, {whole(0)}, {whole(1)}, {minusNought()}, {nan(canonNaN)}, {text("a")}, {text("b")}, {text("k00")}, {list(whole(1))}, {api.Value{}},
		{text("a"), whole(1)}, {text("b"), nan(canonNaN)}, {text("a"), text("b"), float(0.5)}, {api.Value{}, whole(1)}, {aStep("a", "get")},
	}
}

// P15.2: what is restored is the object: it does what the one did of which the
// Snapshot is.
func TestRestoredDoesTheSame(t *testing.T) {
	for _, class := range classes() {
		for _, state := range rights(class) {
			restored, err := object.Restore(class, snapshot(t, class, state))
			if err != api.OK {
				t.Fatalf("Restore(%s, ..) of %.80s: %v", class, value.Text(state), err)
			}
			alike(t, class, state, restored)
		}
	}
}

// P15.2: an object may be snapshot and restored behind each of its calls, from
// its begin on, and its life is the same.
func TestLifeFromSnapshotToSnapshot(t *testing.T) {
	for _, class := range classes() {
		now, _ := chk.Start(class)
		steady, methods, all := now, chk.Methods(class), fitting()
		for i := range 1500 {
			method, l := methods[i%len(methods)], all[i/len(methods)%len(all)]
			now, steady = lived(t, class, now, method, l), done(class, steady, method, l)
			if !exact(now, steady) {
				t.Fatalf("%s, call %d: %.80s; wanted %.80s", class, i, value.Text(now), value.Text(steady))
			}
		}
	}
}

// done gives the state behind a call; as it was beside an error.
func done(class string, now api.Value, method string, l []api.Value) api.Value {
	then, _, err := object.Do(class, now, method, l)
	if err != api.OK {
		return now
	}
	return then
}

// lived does the call on what is restored of the state's Snapshot.
func lived(t *testing.T, class string, now api.Value, method string, l []api.Value) api.Value {
	t.Helper()
	restored, err := object.Restore(class, snapshot(t, class, now))
	if err != api.OK {
		t.Fatalf("Restore(%s, ..) of %.80s: %v", class, value.Text(now), err)
	}
	return done(class, restored, method, l)
}

// P15.2: what an object begins with has a Snapshot, of each class.
func TestBeginnings(t *testing.T) {
	for _, class := range chk.Classes() {
		begin, _ := chk.Start(class)
		wantSnapshot(t, class, begin, raw([]byte{marked()[class]}, begin))
		wantRestored(t, class, snapshot(t, class, begin), begin)
	}
}

// FuzzLife does calls, two bytes each, on an object of a class, and asks behind
// each that its Snapshot is it.
func FuzzLife(f *testing.F) {
	for i := range classes() {
		f.Add(byte(i), []byte("\x00\x05\x01\x06\x02\x09\x03\x0b\x04\x0a\x05\x05\x06\x00\x07\x01"))
		f.Add(byte(i), []byte("\x04\x05\x01\x09\x05\x09\x02\x00\x03\x04\x00\x02"))
	}
	samples := append(fitting(), args(filled(3000)), args(text("a"), filled(3000)), args(nested(api.MaxDepth-2, float(math.Inf(1)))), args(stray(9)))
	f.Fuzz(func(t *testing.T, which byte, b []byte) {
		class := classes()[int(which)%len(classes())]
		methods := chk.Methods(class)
		now, _ := chk.Start(class)
		for ; len(b) >= 2; b = b[2:] {
			method, l := methods[int(b[0])%len(methods)], samples[int(b[1])%len(samples)]
			then := lived(t, class, now, method, l)
			if !exact(then, done(class, now, method, l)) || !object.Right(class, then) {
				t.Fatalf("%s, %.80s: %s(%.80s): %.80s", class, value.Text(now), method, value.Text(list(l...)), value.Text(then))
			}
			now = then
		}
	})
}
