package style_test

import (
	"math"
	"slices"
	"strings"
	"testing"

	"choir/api"
)

// P19.2: the reply of what was done is told; nothing more is done by that.
func TestReplyOfWhatWasDone(t *testing.T) {
	s := sit(t, "a", "queue", "active", "c", "queue", "cold", "o", "orch", "active")
	push, nope, run := s.push("a"), s.call("a", "nope"), s.call("o", "run", aStep("a", "pop"), aStep("nobody", "pop"))
	s.r.Learn(push, nope, run)
	s.r.Learn(op(root(2, 1), "c", "len"))
	for range 2 {
		s.wantReply(api.Reply{Id: push.Id, V: whole(1)})
		s.wantReply(api.Reply{Id: nope.Id, Err: api.ErrBadArgs})
		s.wantReply(api.Reply{Id: run.Id, V: list(whole(4), list(text("error"), whole(int64(api.ErrBadRef))))})
		s.wantReply(api.Reply{Id: within(run.Id, 1), V: whole(4)})
		s.wantReply(api.Reply{Id: within(run.Id, 2), Err: api.ErrBadRef})
		s.wantReply(api.Reply{Id: root(1, 3)})
		s.want(7, 6)
	}
}

// P19.2: where a call of the id's Client and Seq waits, all is done first,
// whatever is told then.
func TestReplyOfWhatWaits(t *testing.T) {
	for _, nest := range []uint16{0, 1, 2, api.MaxSteps, math.MaxUint16} {
		s := sit(t, "c", "queue", "cold", "o", "orch", "cold")
		s.r.Learn(s.push("c"), s.call("o", "run", aStep("c", "pop"), aStep("nobody", "len")), s.push("c"))
		s.want(5, 2)
		id := within(root(1, 4), nest)
		switch nest {
		case 0:
			s.wantReply(api.Reply{Id: id, V: list(whole(3), list(text("error"), whole(int64(api.ErrBadRef))))})
		case 1:
			s.wantReply(api.Reply{Id: id, V: whole(3)})
		case 2:
			s.wantReply(api.Reply{Id: id, Err: api.ErrBadRef})
		default:
			s.wantNoReply(id)
		}
		s.want(5, 5)
		s.wantAt("c", list(whole(5)), 5)
	}
}

// P19.2: the first and the last one that wait are looked at, too.
func TestReplyAtEachPlace(t *testing.T) {
	for place := range 9 {
		s := sit(t, "c", "queue", "cold")
		for seq := range uint32(9) {
			s.r.Learn(op(root(seq+10, 1), "c", "push", whole(int64(seq))))
		}
		s.want(10, 1)
		s.wantReply(api.Reply{Id: root(uint32(place)+10, 1), V: whole(int64(place) + 1)})
		s.want(10, 10)
	}
}

// P19.2: where no call of the id's Client and Seq waits, nothing is done.
func TestReplyOfNone(t *testing.T) {
	s := sit(t, "c", "queue", "cold")
	s.r.Learn(op(root(2, 7), "c", "push", whole(1)), op(root(3, 8), "c", "push", whole(1)))
	s.wantNoReply(root(2, 8), root(3, 7), root(2, 6), root(7, 2), root(0, 0), root(1, 2), within(root(2, 8), 7), within(root(1, 1), 1), root(math.MaxUint32, math.MaxUint32))
	s.want(3, 1)
	s.wantReply(api.Reply{Id: root(1, 1)})
	s.want(3, 1)
}

// P19.2: what is no call has no reply, but is done first, by its Client and Seq.
func TestReplyOfNoCall(t *testing.T) {
	for _, o := range []api.Op{
		op(within(root(5, 1), 3), "c", "push", whole(1)),
		op(root(5, 1), strings.Repeat("c", api.MaxName+1), "push", whole(1)),
		op(root(5, 1), "c", strings.Repeat("m", api.MaxName+1)),
		op(root(5, 1), "c", "push", slices.Repeat([]api.Value{whole(1)}, api.MaxArgs+1)...),
	} {
		s := sit(t, "c", "queue", "cold")
		s.r.Learn(s.push("c"), o, s.push("c"))
		s.want(4, 1)
		s.wantNoReply(root(5, 1))
		s.want(4, 4)
		s.wantNoReply(o.Id)
		s.wantAt("c", list(whole(2), whole(3)), 4)
	}
}

// P19.2: the reply is one of engine.Replies: what is below the Client's MaxOpen
// greatest Seqs has none any more.
func TestReplyOfOldOnes(t *testing.T) {
	s := sit(t, "a", "queue", "active")
	s.r.Learn(s.pushes(api.MaxOpen+1, "a")...)
	s.wantNoReply(root(1, 1), root(1, 2))
	for seq := range uint32(api.MaxOpen) {
		s.wantReply(api.Reply{Id: root(1, 3+seq), V: whole(int64(seq) + 2)})
	}
}

// P19.2: what is done first is all that waits: also what makes the reply an old
// one, and what was learnt again.
func TestReplyDoesAll(t *testing.T) {
	s := sit(t, "c", "queue", "cold")
	first := s.push("c")
	s.r.Learn(first)
	s.wantReply(api.Reply{Id: first.Id, V: whole(1)})
	s.r.Learn(s.push("c"), first)
	s.want(4, 2)
	s.wantReply(api.Reply{Id: first.Id, V: whole(1)})
	s.want(4, 4)
	s.r.Learn(s.push("c"))
	s.r.Learn(s.pushes(api.MaxOpen, "c")...)
	s.want(9, 4)
	s.wantNoReply(root(1, 4))
	s.want(9, 9)
	s.wantReply(api.Reply{Id: root(1, 5), V: whole(4)})
}

// P19.1, P19.2: behind a Reply that did all a replica goes on as before: what it
// learns waits as its group's style says.
func TestLearnBehindReply(t *testing.T) {
	s := sit(t, "c", "queue", "cold", "w", "queue", "warm")
	s.r.Learn(s.push("w"))
	s.wantReply(api.Reply{Id: s.last, V: whole(1)})
	s.want(3, 3)
	s.r.Learn(s.push("c"))
	s.want(4, 3)
	s.r.Learn(s.push("w"), s.push("w"), s.push("c"))
	s.want(7, 3)
	s.r.Learn(s.push("c"))
	s.want(8, 8)
}
