package style

import (
	"slices"
	"strings"

	"choir/api"
	"choir/call"
	"choir/value"
)

// backlog: calls in order. The first of them are done, and no more than counted;
// the others wait.
type backlog struct {
	done    int
	waiting []api.Op
}

// add lets these calls wait, behind all others.
func (b *backlog) add(l []api.Op) {
	for _, o := range l {
		b.waiting = append(b.waiting, kept(o))
	}
}

// pass counts the first n that wait as done. They are cleared, as nothing needs
// what hangs on them any more.
func (b *backlog) pass(n int) {
	clear(b.waiting[:n])
	b.waiting = b.waiting[n:]
	b.done += n
}

// known gives how many calls there are.
func (b *backlog) known() int { return b.done + len(b.waiting) }

// upTo gives how many calls wait up to and with the first one that is such, of
// the first n that wait; 0, if there is none.
func (b *backlog) upTo(n int, such func(api.Op) bool) int {
	return slices.IndexFunc(b.waiting[:n], such) + 1
}

// beforeCheckpoint gives how many of the calls that wait come before the last
// checkpoint that all that is known goes up to.
func (b *backlog) beforeCheckpoint() int {
	known := b.known()
	return max(0, known-known%api.Every-b.done)
}

// waits tells whether a call of id's Client and Seq waits. What is nested in it
// is not known yet, so that a Nest says nothing.
func (b *backlog) waits(id api.OpId) bool {
	return slices.ContainsFunc(b.waiting, func(o api.Op) bool {
		return o.Id.Client == id.Client && o.Id.Seq == id.Seq
	})
}

// kept gives o in new memory. Where value.Check has an error of an arg, another
// value of that error stands for it, which is all that a call comes to by it:
// cleaned alone, what is of no kind would be Nil, and might be taken.
func kept(o api.Op) api.Op {
	c := call.Clean(o)
	for i, v := range o.Args {
		switch value.Check(v) {
		case api.OK:
		case api.ErrSize:
			c.Args[i] = api.Value{Kind: api.Text, S: strings.Repeat("x", api.MaxText+1)}
		default:
			c.Args[i] = api.Value{Kind: -1}
		}
	}
	return c
}
