package object_test

import (
	"bytes"
	"math"
	"slices"
	"testing"

	"choir/api"
	chk "choir/args"
	"choir/object"
	"choir/value"
	"choir/wire"
)

// P15.1: the bytes of a Snapshot, of each class, one by one.
func TestSnapshotBytes(t *testing.T) {
	eightNoughts := make([]byte, 8)
	for _, x := range []struct {
		class string
		state api.Value
		want  []byte
	}{
		{"counter", list(whole(0), float(0)), slices.Concat([]byte{1, 4, 2, 1}, eightNoughts, []byte{2}, eightNoughts)},
		{"counter", list(whole(258), minusNought()), []byte{1, 4, 2, 1, 0, 0, 0, 0, 0, 0, 1, 2, 2, 0x80, 0, 0, 0, 0, 0, 0, 0}},
		{"counter", list(whole(1), nan(0xfff0000000000123)), []byte{1, 4, 2, 1, 0, 0, 0, 0, 0, 0, 0, 1, 2, 0x7f, 0xf8, 0, 0, 0, 0, 0, 1}},
		{"ledger", list(), []byte{2, 4, 0}},
		{"ledger", list(has("ab", float(1))), []byte{2, 4, 1, 4, 2, 3, 0, 2, 'a', 'b', 2, 0x3f, 0xf0, 0, 0, 0, 0, 0, 0}},
		{"orch", whole(0), append([]byte{3, 1}, eightNoughts...)},
		{"orch", whole(math.MaxInt64), []byte{3, 1, 0x7f, 0xff, 0xff, 0xff, 0xff, 0xff, 0xff, 0xff}},
		{"queue", list(), []byte{4, 4, 0}},
		{"queue", list(text("a"), api.Value{}, list()), []byte{4, 4, 3, 3, 0, 1, 'a', 0, 4, 0}},
		{"register", api.Value{}, []byte{5, 0}},
		{"register", text(""), []byte{5, 3, 0, 0}},
		{"register", whole(-2), []byte{5, 1, 0xff, 0xff, 0xff, 0xff, 0xff, 0xff, 0xff, 0xfe}},
		{"table", list(), []byte{6, 4, 0}},
		{"table", list(has("k", text("v"))), []byte{6, 4, 1, 4, 2, 3, 0, 1, 'k', 3, 0, 1, 'v'}},
	} {
		wantSnapshot(t, x.class, x.state, x.want)
		wantRestored(t, x.class, x.want, value.Clean(x.state))
	}
}

// P15.1: a Snapshot is a byte, which of args.Classes() from 1 on, and wire.Put
// of the state, up to the greatest ones.
func TestSnapshotIsMarkAndWire(t *testing.T) {
	for i, class := range chk.Classes() {
		for _, state := range rights(class) {
			put, err := wire.Put([]byte{byte(i + 1)}, state)
			if err != api.OK {
				t.Fatalf("wire.Put(%.80s): %v", value.Text(state), err)
			}
			wantSnapshot(t, class, state, put)
			wantSnapshot(t, class, state, raw([]byte{marked()[class]}, state))
		}
	}
	if b := snapshot(t, "register", filled(api.MaxSize)); len(b) != 1+api.MaxSize {
		t.Errorf("%d bytes", len(b))
	}
}

// wantNoSnapshot asks for ErrBadArgs alone.
func wantNoSnapshot(t *testing.T, class string, state api.Value) {
	t.Helper()
	if b, err := object.Snapshot(class, state); err != api.ErrBadArgs || len(b) != 0 {
		t.Errorf("Snapshot(%.20q, %.80q): %d bytes, %v; wanted %v alone", class, value.Text(state), len(b), err, api.ErrBadArgs)
	}
}

// P15.1: of a state that isn't Right there is no Snapshot: ErrBadArgs, where
// value.Check says ErrSize too; and none of what is of no class.
func TestNoSnapshot(t *testing.T) {
	for _, class := range classes() {
		for _, state := range wrongs(class) {
			wantNoSnapshot(t, class, state)
		}
		for _, f := range faults() {
			wantNoSnapshot(t, class, f.v)
		}
		for _, no := range noClasses() {
			for _, state := range rights(class) {
				wantNoSnapshot(t, no, state)
			}
		}
	}
	for _, no := range noClasses() {
		for _, f := range faults() {
			wantNoSnapshot(t, no, f.v)
		}
	}
}

// P15.1: Restore gives the state that has just this Snapshot, of each class.
func TestRestore(t *testing.T) {
	for _, class := range classes() {
		for _, state := range rights(class) {
			wantRestored(t, class, raw([]byte{marked()[class]}, state), state)
			wantRestored(t, class, snapshot(t, class, crowd(state)), state)
		}
	}
}

// P15.1: another class's Snapshot is none, though this class may hold the state.
func TestRestoreOfOthers(t *testing.T) {
	for _, class := range classes() {
		for _, state := range rights(class) {
			b := raw([]byte{0}, state)
			for mark := range 256 {
				if b[0] = byte(mark); b[0] != marked()[class] {
					wantNoBytes(t, class, b)
				}
			}
			for _, other := range classes() {
				if b[0] = marked()[class]; other != class {
					wantNoBytes(t, other, b)
				}
			}
		}
	}
}

// P15.1: of no class there is no Snapshot, with whatever byte ahead.
func TestRestoreOfNoClass(t *testing.T) {
	for _, no := range noClasses() {
		wantNoBytes(t, no, nil)
		for mark := range 256 {
			wantNoBytes(t, no, []byte{byte(mark)})
			wantNoBytes(t, no, []byte{byte(mark), api.Nil})
			wantNoBytes(t, no, raw([]byte{byte(mark)}, list(whole(0), float(0))))
		}
		for _, class := range classes() {
			for _, state := range rights(class) {
				wantNoBytes(t, no, snapshot(t, class, state))
			}
		}
	}
}

// P15.1: a Snapshot that ends ahead, or goes on behind, is none.
func TestRestoreOfPieces(t *testing.T) {
	for _, class := range classes() {
		wantNoBytes(t, class, nil)
		wantNoBytes(t, class, []byte{})
		for _, state := range rights(class) {
			b := snapshot(t, class, state)
			for n := range b {
				wantNoBytes(t, class, b[:n])
			}
			for n := 1; n < min(len(b), 20); n++ {
				wantNoBytes(t, class, b[n:])
			}
			for _, more := range [][]byte{{0}, {1}, {0xff}, b, make([]byte, 8), make([]byte, api.MaxSize), make([]byte, 1<<17)} {
				wantNoBytes(t, class, slices.Concat(b, more))
				wantNoBytes(t, class, slices.Concat(b[:1], more, b[1:]))
			}
		}
	}
}

// P15.1: bytes of a value that the class may not hold are no Snapshot.
func TestRestoreOfWrongStates(t *testing.T) {
	for _, class := range classes() {
		mark := []byte{marked()[class]}
		for _, state := range wrongs(class) {
			wantNoBytes(t, class, raw(slices.Clone(mark), state))
		}
		for _, bad := range []api.Value{
			stray(5), stray(255), list(stray(5)), list(has("a", stray(9))), long(api.MaxText + 1), list(has("a", long(api.MaxText+1))),
			times(api.MaxItems+1, api.Value{}), times(255, api.Value{}), nested(api.MaxDepth+1, whole(1)), nested(api.MaxDepth, list()), nested(1<<12, list()), filled(api.MaxSize + 1), list(has("k", filled(api.MaxSize-7))),
		} {
			wantNoBytes(t, class, raw(slices.Clone(mark), bad))
		}
	}
}

// P15.1: a NaN has one form; a Snapshot never has another one.
func TestRestoreOfOtherNaNs(t *testing.T) {
	for _, bits := range []uint64{0x7ff8000000000000, 0x7ff8000000000002, 0xfff8000000000001, 0x7ff0000000000001, 0xfff0000000000123, 0x7fffffffffffffff, math.MaxUint64} {
		wantNoBytes(t, "counter", raw([]byte{1}, list(whole(0), nan(bits))))
		wantNoBytes(t, "queue", raw([]byte{4}, list(whole(0), nan(bits))))
		wantNoBytes(t, "register", raw([]byte{5}, nan(bits)))
		wantNoBytes(t, "table", raw([]byte{6}, list(has("a", nan(bits)))))
		wantSnapshot(t, "counter", list(whole(0), nan(bits)), raw([]byte{1}, list(whole(0), nan(canonNaN))))
		wantSnapshot(t, "register", nan(bits), raw([]byte{5}, nan(canonNaN)))
	}
}

// restores asks for what P15.1 says of any bytes: a state that is Right and has
// just this Snapshot, or ErrWire alone, if there is none.
func restores(t *testing.T, class string, b []byte) {
	t.Helper()
	if !isSnapshot(class, b) {
		wantNoBytes(t, class, b)
		return
	}
	state, err := object.Restore(class, b)
	if err != api.OK || !object.Right(class, state) || !exact(state, value.Clean(state)) {
		t.Errorf("Restore(%.20q, %.60x): %.80s, %v", class, b, value.Text(state), err)
	}
	wantSnapshot(t, class, state, b)
}

// isSnapshot tells, by the layers below, whether some state has this Snapshot.
func isSnapshot(class string, b []byte) bool {
	if len(b) == 0 || b[0] == 0 || b[0] != marked()[class] {
		return false
	}
	state, n, err := wire.Read(b[1:])
	return err == api.OK && n == len(b)-1 && object.Right(class, state)
}

// P15.1: a Snapshot with a bit turned, or a byte changed, is another one's or
// none.
func TestRestoreOfTurnedBits(t *testing.T) {
	for _, class := range classes() {
		for _, state := range rights(class) {
			b := snapshot(t, class, state)
			for i := range min(len(b), 200) {
				for bit := range 8 {
					b[i] ^= 1 << bit
					restores(t, class, b)
					b[i] ^= 1 << bit
				}
			}
		}
	}
}

// P15.1: all bytes, up to three, of each class.
func TestRestoreOfAllShortBytes(t *testing.T) {
	for _, class := range classes() {
		for a := range 256 {
			restores(t, class, []byte{byte(a)})
			for b := range 256 {
				restores(t, class, []byte{byte(a), byte(b)})
			}
		}
		for b := range 1 << 16 {
			restores(t, class, []byte{marked()[class], byte(b >> 8), byte(b)})
		}
	}
}

// P15.1: Snapshot and Restore answer in new memory, and change nothing.
func TestSnapshotsInNewMemory(t *testing.T) {
	for _, class := range classes() {
		for _, state := range rights(class) {
			given := crowd(state)
			b := snapshot(t, class, given)
			if !exact(given, crowd(state)) {
				t.Errorf("%s, %.80s: Snapshot changed the state", class, value.Text(state))
			}
			want := slices.Clone(b)
			spoil(given.L)
			if !bytes.Equal(b, want) {
				t.Errorf("%s, %.80s: the Snapshot shares memory with the state", class, value.Text(state))
			}
			room := append(slices.Clone(b), 0xaa)
			got, _ := object.Restore(class, room[:len(b)])
			if !bytes.Equal(room[:len(b)], b) || room[len(b)] != 0xaa {
				t.Errorf("%s, %.80s: Restore changed the bytes", class, value.Text(state))
			}
			clear(room)
			if !exact(got, state) {
				t.Errorf("%s, %.80s: what is restored shares memory with the bytes", class, value.Text(state))
			}
			other, _ := object.Restore(class, b)
			spoil(other.L)
			if !exact(got, state) {
				t.Errorf("%s, %.80s: what is restored twice shares memory", class, value.Text(state))
			}
		}
	}
}

// FuzzRestore holds any bytes against P15.1, as each class's, and as none's.
func FuzzRestore(f *testing.F) {
	for _, class := range classes() {
		for _, state := range rights(class)[:4] {
			f.Add(raw([]byte{marked()[class]}, state))
		}
	}
	f.Fuzz(func(t *testing.T, b []byte) {
		for _, class := range append(classes(), "", "groups") {
			restores(t, class, b)
		}
	})
}
