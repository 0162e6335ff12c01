package dedup_test

import (
	"math"
	"math/rand"
	"slices"
	"testing"

	"choir/api"
	"choir/dedup"
	"choir/opid"
)

// history: all that was ever put, in its order, whether it was taken or not. It
// tells what P16.1 says of a table without keeping one.
type history []api.Reply

// greatest gives the MaxOpen greatest Seqs that were put of a client, rising.
func (h history) greatest(client uint32) []uint32 {
	var seqs []uint32
	for _, r := range h {
		if r.Id.Client == client {
			seqs = append(seqs, r.Id.Seq)
		}
	}
	slices.Sort(seqs)
	seqs = slices.Compact(seqs)
	return seqs[max(0, len(seqs)-api.MaxOpen):]
}

// first gives the reply that was put first of an id whose Seq is among the
// greatest.
func (h history) first(id api.OpId) (api.Reply, bool) {
	if !slices.Contains(h.greatest(id.Client), id.Seq) {
		return api.Reply{}, false
	}
	for _, r := range h {
		if r.Id == id {
			return r, true
		}
	}
	return api.Reply{}, false
}

func (h history) old(id api.OpId) bool {
	seqs := h.greatest(id.Client)
	return len(seqs) == api.MaxOpen && id.Seq < seqs[0]
}

// all gives what is kept of the ids, which rise, and are all that were put.
func (h history) all(ids []api.OpId) []api.Reply {
	var all []api.Reply
	for _, id := range ids {
		if r, there := h.first(id); there {
			all = append(all, r)
		}
	}
	return all
}

// put puts r to the table, and asks for what P16.1 says of it.
func (h history) put(t *testing.T, d *dedup.Table, r api.Reply) history {
	t.Helper()
	_, there := h.first(r.Id)
	want := !there && !h.old(r.Id)
	if got := d.Put(r); got != want {
		t.Fatalf("Put(%s): %v; wanted %v, behind %s", opid.Text(r.Id), got, want, told(h...))
	}
	return append(h, r)
}

// hold holds the table against all that was put, as to ids, which rise.
func (h history) hold(t *testing.T, d *dedup.Table, ids []api.OpId) {
	t.Helper()
	if all := h.all(ids); !slices.EqualFunc(d.All(), all, alike) {
		t.Fatalf("All: %s; wanted %s, behind %s", told(d.All()...), told(all...), told(h...))
	}
	for _, id := range ids {
		h.holdLook(t, d, id)
		seqs := h.greatest(id.Client)
		if last, ok := d.Last(id.Client); ok != (len(seqs) > 0) || ok && last != seqs[len(seqs)-1] || !ok && last != 0 {
			t.Fatalf("Last(%d): %d, %v; wanted the last of %v", id.Client, last, ok, seqs)
		}
	}
}

func (h history) holdLook(t *testing.T, d *dedup.Table, id api.OpId) {
	t.Helper()
	want, there := h.first(id)
	var err api.Errno
	if h.old(id) {
		err = api.ErrOld
	}
	if r, ok, e := d.Look(id); ok != there || e != err || !alike(r, want) {
		t.Fatalf("Look(%s): %s, %v, %v; wanted %s, %v, %v, behind %s", opid.Text(id), told(r), ok, e, told(want), there, err, told(h...))
	}
}

// nth: the n-th reply that is put, to id.
func nth(id api.OpId, n int) api.Reply {
	return api.Reply{Id: id, Err: api.Errno(n % 3), V: whole(int64(n))}
}

// grid gives ids of these numbers, each once, in order.
func grid(clients, seqs []uint32, nests []uint16) []api.OpId {
	var ids []api.OpId
	for _, client := range clients {
		for _, seq := range seqs {
			for _, nest := range nests {
				ids = append(ids, nested(client, seq, nest))
			}
		}
	}
	return ids
}

// P16.1: all histories of six Puts of six Seqs.
func TestAllShortHistories(t *testing.T) {
	ids := grid([]uint32{1}, []uint32{0, 1, 2, 3, 4, 5}, []uint16{0})
	const long = 6
	for n := range int(math.Pow(float64(len(ids)), long)) {
		var h history
		d := dedup.New()
		for i := range long {
			h = h.put(t, d, nth(ids[n%len(ids)], i))
			n /= len(ids)
		}
		h.hold(t, d, ids)
	}
}

// P16.1: histories of several clients, with nested ones, held at each step.
func TestAnyHistory(t *testing.T) {
	r := rand.New(rand.NewSource(16))
	for _, ids := range [][]api.OpId{
		grid([]uint32{3}, []uint32{1, 2, 3, 4, 5, 6, 7}, []uint16{0, 1, 2}),
		grid([]uint32{0, 1, math.MaxUint32}, []uint32{0, 1, 2, 9, 10, 11, 1 << 31, math.MaxUint32 - 1, math.MaxUint32}, []uint16{0, 1, math.MaxUint16}),
		grid([]uint32{5, 6}, []uint32{0, 1, 2, 3, 4, 5, 6, 7, 8, 9, 10, 11}, []uint16{0, 8}),
	} {
		for range 30 {
			var h history
			d := dedup.New()
			for i := range 60 {
				h = h.put(t, d, nth(ids[r.Intn(len(ids))], i))
				h.hold(t, d, ids)
			}
		}
	}
}

// P16.1: what is kept in the end hangs on what was put, not on the order of the
// Seqs.
func TestOrderOfSeqsIsNothing(t *testing.T) {
	r := rand.New(rand.NewSource(161))
	ids := grid([]uint32{1, 2}, []uint32{1, 2, 3, 4, 5, 6, 7, 8}, []uint16{0, 1, 8})
	for range 500 {
		d := dedup.New()
		for _, i := range r.Perm(len(ids)) {
			d.Put(answer(ids[i]))
		}
		wantKept(t, d, grid([]uint32{1, 2}, []uint32{5, 6, 7, 8}, []uint16{0, 1, 8})...)
	}
}

// server does each call that it hasn't an answer for, as whoever asks the table
// ahead of doing does.
type server struct {
	answered *dedup.Table
	done     map[api.OpId]int
}

// come: a call comes; what is told of it.
func (s *server) come(t *testing.T, id api.OpId) (api.Reply, api.Errno) {
	r, there, err := s.answered.Look(id)
	if there || err != api.OK {
		return r, err
	}
	s.done[id]++
	r = nth(id, len(s.done))
	if !s.answered.Put(r) {
		t.Fatalf("Put(%s): false, though Look told nothing", opid.Text(id))
	}
	return r, api.OK
}

// P16.3: no call is done twice, however late, and however often, it comes; what
// is told of it is always the same, until it is old; then it is old for good.
func TestNoCallIsDoneTwice(t *testing.T) {
	r := rand.New(rand.NewSource(163))
	for _, ids := range [][]api.OpId{
		grid([]uint32{1}, []uint32{1, 2, 3, 4, 5, 6, 7, 8}, []uint16{0}),
		grid([]uint32{1, 2, 3}, []uint32{1, 2, 3, 4, 5, 6, 7, 8, 9, 10}, []uint16{0, 1, 2}),
	} {
		for range 200 {
			s := server{answered: dedup.New(), done: map[api.OpId]int{}}
			first, old := map[api.OpId]api.Reply{}, map[api.OpId]bool{}
			for i := range 400 {
				id := ids[r.Intn(min(len(ids), 3+i/5))]
				reply, err := s.come(t, id)
				if before, there := first[id]; err == api.OK && (old[id] || there && !alike(before, reply)) {
					t.Fatalf("%s was told as %s, old: %v, then as %s", opid.Text(id), told(before), old[id], told(reply))
				}
				first[id], old[id] = reply, err == api.ErrOld
				if s.done[id] > 1 {
					t.Fatalf("%s was done twice", opid.Text(id))
				}
			}
		}
	}
}

// P16.3: a client that has at most MaxOpen calls open, and begins none before
// the one that is MaxOpen before it has its reply, has a reply to each.
func TestOpenCallsAreNeverOld(t *testing.T) {
	r := rand.New(rand.NewSource(164))
	for range 200 {
		s := server{answered: dedup.New(), done: map[api.OpId]int{}}
		least, replied := uint32(1), map[uint32]bool{}
		for least < 50 {
			seq := least + uint32(r.Intn(api.MaxOpen))
			if _, err := s.come(t, root(7, seq)); err != api.OK {
				t.Fatalf("7-%d: %v, while %d is open", seq, err, least)
			}
			replied[seq] = true
			for replied[least] {
				least++
			}
		}
	}
}

// P16.1: many clients, each of which has its own.
func TestManyClients(t *testing.T) {
	const clients = 50000
	d := dedup.New()
	for seq := range uint32(2 * api.MaxOpen) {
		for client := range uint32(clients) {
			if !d.Put(api.Reply{Id: root(client, seq), V: whole(int64(client))}) {
				t.Fatalf("Put(%d-%d): false", client, seq)
			}
		}
	}
	all := d.All()
	if len(all) != clients*api.MaxOpen {
		t.Fatalf("All: %d replies of %d clients", len(all), clients)
	}
	for i, r := range all {
		want := root(uint32(i/api.MaxOpen), uint32(api.MaxOpen+i%api.MaxOpen))
		if !alike(r, api.Reply{Id: want, V: whole(int64(want.Client))}) {
			t.Fatalf("All, %d: %s; wanted %s's", i, told(r), opid.Text(want))
		}
	}
}

// FuzzHistory holds any history against P16.1: of each two bytes the one tells
// client and nest, the other one the Seq.
func FuzzHistory(f *testing.F) {
	f.Add([]byte{0, 1, 0, 2, 0, 3, 0, 4, 0, 5, 0, 1})
	f.Add([]byte{0, 9, 1, 9, 2, 9, 0, 8, 0, 7, 0, 6, 0, 5, 0, 255})
	f.Fuzz(func(t *testing.T, b []byte) {
		var h history
		var ids []api.OpId
		d := dedup.New()
		for i := 1; i < min(len(b), 100); i += 2 {
			id := nested(uint32(b[i-1]/16), uint32(b[i]), uint16(b[i-1]%16))
			h = h.put(t, d, nth(id, i))
			if at, there := slices.BinarySearchFunc(ids, id, order); !there {
				ids = slices.Insert(ids, at, id)
			}
			h.hold(t, d, ids)
		}
	})
}

// order tells ids by their numbers, one by one.
func order(a, b api.OpId) int {
	return slices.Compare([]uint32{a.Client, a.Seq, uint32(a.Nest)}, []uint32{b.Client, b.Seq, uint32(b.Nest)})
}
