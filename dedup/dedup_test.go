package dedup_test

import (
	"math"
	"slices"
	"strings"
	"testing"

	"choir/api"
	"choir/dedup"
	"choir/opid"
)

// P16.1: a table in which nothing was put has nothing, and nothing is old.
func TestNew(t *testing.T) {
	d := dedup.New()
	wantAll(t, d, nil)
	for _, client := range []uint32{0, 1, math.MaxUint32} {
		wantNoLast(t, d, client)
		wantNone(t, d, root(client, 0), root(client, 1), root(client, math.MaxUint32), nested(client, 0, 1), nested(client, 1, math.MaxUint16))
	}
}

// P16.1: what was put is told again, whatever its error and its value.
func TestPutAndLook(t *testing.T) {
	d := dedup.New()
	var want []api.Reply
	for i, r := range []api.Reply{
		{}, {V: whole(math.MinInt64)}, {V: float(0.1)}, {V: minusNought()}, {V: nan(canonNaN)}, {V: text("")}, {V: text("a\x00\xff")},
		{V: list()}, {V: list(whole(1), list(text("x"), nan(canonNaN)), api.Value{})}, {V: list(slices.Repeat([]api.Value{whole(1)}, 2*api.MaxItems)...)},
		{V: text(strings.Repeat("x", api.MaxSize+1))}, {Err: api.ErrPanic}, {Err: api.ErrOld}, {Err: api.ErrOld, V: whole(3)}, {Err: -1}, {Err: math.MaxInt},
	} {
		r.Id = root(uint32(i), 1)
		if !d.Put(r) {
			t.Errorf("Put %d: false", i)
		}
		want = append(want, r)
		wantReply(t, d, r)
	}
	wantAll(t, d, want)
	for _, r := range want {
		wantReply(t, d, r)
	}
}

// P16.1: an id's first reply stays.
func TestPutTwice(t *testing.T) {
	d := answered(t, root(1, 1), nested(1, 1, 1), nested(1, 1, 2))
	for range 3 {
		wantRefused(t, d, root(1, 1), nested(1, 1, 1), nested(1, 1, 2))
	}
	if d.Put(answer(root(1, 1))) {
		t.Error("the same reply was put twice")
	}
	wantKept(t, d, root(1, 1), nested(1, 1, 1), nested(1, 1, 2))
}

// P16.1: all stay while a client has at most MaxOpen Seqs; with one more the
// least goes, and is old from then on.
func TestGreatestSeqsStay(t *testing.T) {
	d := dedup.New()
	var ids []api.OpId
	for seq := range uint32(api.MaxOpen) {
		ids = append(ids, root(1, seq+1))
		wantTaken(t, d, root(1, seq+1))
		wantKept(t, d, ids...)
	}
	for seq := uint32(api.MaxOpen + 1); seq < 100; seq++ {
		gone := ids[0]
		ids = append(ids[1:], root(1, seq))
		wantNone(t, d, root(1, seq))
		wantThere(t, d, gone)
		wantTaken(t, d, root(1, seq))
		wantKept(t, d, ids...)
		wantOld(t, d, gone, nested(1, gone.Seq, 1), root(1, 0))
		wantRefused(t, d, gone, nested(1, gone.Seq, 1), root(1, 0))
		wantKept(t, d, ids...)
	}
}

// P16.1: as long as there is room below MaxOpen Seqs, nothing is old.
func TestNothingIsOldWhileThereIsRoom(t *testing.T) {
	var greater []uint32
	for n := range uint32(api.MaxOpen) {
		d := answered(t, roots(1, greater...)...)
		wantNone(t, d, root(1, 0), root(1, 4), nested(1, 4, 3))
		wantTaken(t, d, root(1, 4))
		wantKept(t, d, roots(1, append([]uint32{4}, greater...)...)...)
		greater = append(greater, 5+n)
	}
	d := answered(t, roots(1, greater...)...)
	wantOld(t, d, root(1, 0), root(1, 4), nested(1, 4, 3))
	wantRefused(t, d, root(1, 0), root(1, 4), nested(1, 4, 3))
	wantKept(t, d, roots(1, greater...)...)
}

// P16.1: a Seq that is above the least one that is kept isn't old, though it
// may be below others; where it comes, the least one goes.
func TestBetween(t *testing.T) {
	for _, x := range []struct {
		seq  uint32
		then []uint32
	}{
		{3, []uint32{3, 4, 6, 8}}, {5, []uint32{4, 5, 6, 8}}, {7, []uint32{4, 6, 7, 8}}, {9, []uint32{4, 6, 8, 9}}, {math.MaxUint32, []uint32{4, 6, 8, math.MaxUint32}},
	} {
		for _, before := range [][]uint32{{2, 4, 6, 8}, {8, 6, 4, 2}, {6, 2, 8, 4}} {
			d := answered(t, roots(1, before...)...)
			wantNone(t, d, root(1, x.seq), nested(1, x.seq, 1), nested(1, 2, 1), nested(1, 8, 1))
			wantOld(t, d, root(1, 1), nested(1, 1, 1))
			wantTaken(t, d, root(1, x.seq))
			wantKept(t, d, roots(1, x.then...)...)
			wantOld(t, d, root(1, 2), nested(1, 2, 1))
			wantRefused(t, d, root(1, 2), nested(1, 2, 1))
			wantNone(t, d, nested(1, x.then[0], 1))
		}
	}
}

// P16.1: what is kept is counted by Seqs: nested ones are beside their roots,
// whatever their numbers.
func TestNestedOnesTakeNoRoom(t *testing.T) {
	nests := []uint16{1, 2, api.MaxOpen, api.MaxSteps, api.MaxSteps + 1, 1000, math.MaxUint16}
	d := dedup.New()
	var ids []api.OpId
	for seq := range uint32(api.MaxOpen) {
		ids = append(ids, root(1, seq))
		for _, nest := range nests {
			ids = append(ids, nested(1, seq, nest))
		}
	}
	for step := 1; step < len(ids); step += 2 { // an odd one leads to each of their 32
		d = dedup.New()
		for k := range ids {
			wantTaken(t, d, ids[k*step%len(ids)])
		}
		wantKept(t, d, ids...)
	}
	wantTaken(t, d, nested(1, api.MaxOpen, 9))
	wantKept(t, d, append(slices.Clone(ids[1+len(nests):]), nested(1, api.MaxOpen, 9))...)
	wantOld(t, d, ids[:1+len(nests)]...)
	wantRefused(t, d, ids[:1+len(nests)]...)
}

// P16.1: a Seq counts by its nested ones too, where its root isn't there.
func TestNestedOnesAlone(t *testing.T) {
	d := dedup.New()
	for seq := uint32(1); seq <= api.MaxOpen; seq++ {
		wantNone(t, d, root(1, 0), nested(1, 0, 1))
		wantTaken(t, d, nested(1, seq, uint16(seq)))
		wantLast(t, d, 1, seq)
		wantNone(t, d, root(1, seq))
	}
	wantOld(t, d, root(1, 0), nested(1, 0, 1))
	wantRefused(t, d, root(1, 0), nested(1, 0, 1))
	wantTaken(t, d, root(1, 1), root(1, 5))
	wantKept(t, d, nested(1, 2, 2), nested(1, 3, 3), nested(1, 4, 4), root(1, 5))
	wantOld(t, d, root(1, 1), nested(1, 1, 1), nested(1, 1, 2))
	wantNone(t, d, root(1, 2), nested(1, 2, 1))
}

// P16.1: however many nested ones a Seq has, they go with it.
func TestNestedOnesGoTogether(t *testing.T) {
	d := dedup.New()
	for nest := range math.MaxUint16 + 1 {
		if !d.Put(api.Reply{Id: nested(1, 1, uint16(nest)), V: whole(int64(nest))}) {
			t.Fatalf("Put(1-1.%d): false", nest)
		}
	}
	if n := len(d.All()); n != math.MaxUint16+1 {
		t.Errorf("All: %d of all nested ones", n)
	}
	wantTaken(t, d, roots(1, 5, 4, 3, 2)...)
	wantKept(t, d, roots(1, 2, 3, 4, 5)...)
	for nest := range math.MaxUint16 + 1 {
		wantOld(t, d, nested(1, 1, uint16(nest)))
	}
}

// P16.1: each client's calls are by themselves.
func TestClientsApart(t *testing.T) {
	d := answered(t, roots(1, 11, 12, 13, 14)...)
	wantNone(t, d, root(0, 1), root(2, 1), root(2, 11), nested(2, 14, 1))
	wantNoLast(t, d, 0)
	wantNoLast(t, d, 2)
	wantTaken(t, d, roots(2, 1, 2, 3)...)
	wantTaken(t, d, roots(0, 20)...)
	wantOld(t, d, root(1, 10))
	wantNone(t, d, root(2, 0), root(2, 10), root(0, 0), root(0, 19))
	wantTaken(t, d, root(2, 4), root(2, 5))
	wantOld(t, d, root(2, 1))
	wantLast(t, d, 0, 20)
	wantLast(t, d, 1, 14)
	wantLast(t, d, 2, 5)
	wantKept(t, d, slices.Concat(roots(0, 20), roots(1, 11, 12, 13, 14), roots(2, 2, 3, 4, 5))...)
}

// P16.1: numbers at their ends are numbers as others are.
func TestEdgesOfNumbers(t *testing.T) {
	const top = math.MaxUint32
	for _, client := range []uint32{0, 1, 1 << 31, top} {
		d := answered(t, roots(client, 0, top, 1, top-1)...)
		wantKept(t, d, roots(client, 0, 1, top-1, top)...)
		wantLast(t, d, client, top)
		wantNone(t, d, nested(client, 0, 1), root(client, 2), nested(client, top, math.MaxUint16))
		wantTaken(t, d, nested(client, top, math.MaxUint16), root(client, top-2))
		wantOld(t, d, root(client, 0))
		wantTaken(t, d, root(client, top-3))
		wantOld(t, d, root(client, 1), root(client, 0), root(client, top-4))
		wantKept(t, d, root(client, top-3), root(client, top-2), root(client, top-1), root(client, top), nested(client, top, math.MaxUint16))
		wantRefused(t, d, root(client, 0), root(client, top-4), root(client, top))
	}
	d := answered(t, nested(top, top, math.MaxUint16), root(0, 0), root(1<<31, 1<<31))
	wantKept(t, d, root(0, 0), root(1<<31, 1<<31), nested(top, top, math.MaxUint16))
}

// P16.1: what is kept is Clean'd.
func TestPutCleans(t *testing.T) {
	for i, v := range []api.Value{
		{}, whole(5), float(0.5), minusNought(), nan(canonNaN), text("a"), list(), list(whole(1), list(text("b"), nan(canonNaN), minusNought()), api.Value{}),
	} {
		d := dedup.New()
		want := api.Reply{Id: nested(1, 2, 3), Err: api.Errno(i), V: v}
		if !d.Put(api.Reply{Id: want.Id, Err: want.Err, V: crowd(v)}) {
			t.Errorf("Put %d: false", i)
		}
		wantReply(t, d, want)
		wantAll(t, d, []api.Reply{want})
	}
	for _, kind := range []int{-1, 5, 9, math.MinInt, math.MaxInt} {
		d := dedup.New()
		d.Put(api.Reply{Id: root(1, 1), V: stray(kind)})
		d.Put(api.Reply{Id: root(1, 2), V: list(whole(1), list(stray(kind)))})
		wantReply(t, d, api.Reply{Id: root(1, 1)})
		wantReply(t, d, api.Reply{Id: root(1, 2), V: list(whole(1), list(api.Value{}))})
	}
}

// Rule 1 of what holds everywhere: a call ends, whatever value it is given.
func TestRing(t *testing.T) {
	v := list(whole(0), api.Value{})
	v.L[1] = v
	d := dedup.New()
	if !d.Put(api.Reply{Id: root(1, 1), V: v}) {
		t.Error("Put of a ring: false")
	}
	if _, there, err := d.Look(root(1, 1)); !there || err != api.OK || len(d.All()) != 1 {
		t.Errorf("Look of a ring: %v, %v", there, err)
	}
	wantRefused(t, d, root(1, 1))
}

// Rule 3 of what holds everywhere: what is handed in is neither changed nor
// kept, what is answered is new memory.
func TestNewMemory(t *testing.T) {
	v := list(whole(1), list(text("x"), list(whole(2))), list())
	want := []api.Reply{{Id: root(1, 1), V: v}, {Id: nested(1, 1, 1), V: v}}
	d := dedup.New()
	for _, r := range want {
		given := crowd(v)
		given.L = append(given.L, stray(3))[:len(given.L)]
		d.Put(api.Reply{Id: r.Id, V: given})
		if !exact(given, crowd(v)) || !exact(given.L[:len(given.L)+1][len(given.L)], stray(3)) {
			t.Error("Put changed what was handed in")
		}
		spoil(given.L)
	}
	wantAll(t, d, want)
	for range 3 {
		for _, r := range want {
			got, _, _ := d.Look(r.Id)
			spoil(got.V.L)
		}
		all := d.All()
		spoil(all[0].V.L)
		if !alike(all[1], want[1]) {
			t.Error("two replies of one answer share memory")
		}
		spoil(all[1].V.L)
		clear(all[:cap(all)])
		wantAll(t, d, want)
	}
}

// P16.1: Put keeps no list that it was handed, where it refuses it neither.
func TestRefusedIsNotKept(t *testing.T) {
	d := answered(t, roots(1, 2, 3, 4, 5)...)
	before := d.All()
	for _, id := range roots(1, 0, 1, 2, 5) {
		given := list(whole(1), list(text("x")))
		if d.Put(api.Reply{Id: id, V: given}) || !exact(given, list(whole(1), list(text("x")))) {
			t.Errorf("Put(%s) took it, or changed it", opid.Text(id))
		}
		spoil(given.L)
	}
	wantAll(t, d, before)
	wantLast(t, d, 1, 5)
}

// P16.1: Look, All and Last change nothing, and nothing is there by looking.
func TestLookChangesNothing(t *testing.T) {
	d := answered(t, roots(1, 2, 3, 4)...)
	for range 3 {
		for client := range uint32(4) {
			for seq := range uint32(7) {
				d.Look(root(client, seq))
				d.Look(nested(client, seq, 1))
			}
			d.Last(client)
		}
		wantKept(t, d, roots(1, 2, 3, 4)...)
		wantNoLast(t, d, 0)
		wantNoLast(t, d, 2)
		wantLast(t, d, 1, 4)
		wantNone(t, d, root(1, 1), root(1, 5), root(2, 1), nested(1, 2, 1))
	}
}

// P16.2: All is in order of Client, Seq, Nest, in whatever order they came.
func TestAllInOrder(t *testing.T) {
	ids := []api.OpId{
		root(0, 9), nested(0, 10, 2), nested(0, 10, 10), root(0, 100), root(1, 0), nested(1, 0, 1), nested(1, 0, math.MaxUint16), root(1, 1), nested(1, 1, 255), nested(1, 1, 256),
		root(2, 2), root(9, 1), root(10, 0), nested(255, 1, 1), root(256, 0), root(1<<31, 1), nested(math.MaxUint32, 0, 1), root(math.MaxUint32, math.MaxUint32),
	}
	for step := 1; step < 200; step++ {
		d := dedup.New()
		for i := range ids {
			d.Put(answer(ids[i*step%len(ids)]))
		}
		for _, id := range slices.Backward(ids) {
			d.Put(answer(id))
		}
		wantKept(t, d, ids...)
	}
}

// P16.2: Last is the greatest Seq, not the one that came last.
func TestLast(t *testing.T) {
	d := dedup.New()
	for _, x := range []struct {
		id   api.OpId
		last uint32
	}{
		{root(1, 0), 0}, {root(1, 5), 5}, {root(1, 3), 5}, {nested(1, 6, 2), 6}, {root(1, 4), 6}, {root(1, 2), 6}, {root(1, 6), 6}, {root(1, 1<<31), 1 << 31}, {root(1, 7), 1 << 31}, {root(1, math.MaxUint32), math.MaxUint32},
	} {
		d.Put(answer(x.id))
		wantLast(t, d, 1, x.last)
		wantNoLast(t, d, 0)
		wantNoLast(t, d, 2)
	}
}

// Rule 8 of what holds everywhere: one table tells nothing of another one.
func TestTablesApart(t *testing.T) {
	a, b := answered(t, roots(1, 5, 6, 7, 8)...), dedup.New()
	wantNone(t, b, root(1, 1), root(1, 5))
	wantTaken(t, b, root(1, 1))
	wantKept(t, a, roots(1, 5, 6, 7, 8)...)
	wantKept(t, b, root(1, 1))
	wantOld(t, a, root(1, 1))
}
