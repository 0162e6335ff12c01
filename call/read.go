package call

import (
	"choir/api"
	"choir/wire"
)

// reader: bytes that are read from the beginning on. It is lost once
// something isn't there. Nothing is left then, so what is read next isn't
// there either.
type reader struct {
	rest []byte
	lost bool
}

// pass goes on behind n bytes, if what was read there is right.
func (r *reader) pass(n int, right bool) {
	if !right {
		r.rest, r.lost = nil, true
		return
	}
	r.rest = r.rest[n:]
}

func (r *reader) number(n int) uint64 {
	v, ok := wire.ReadU(r.rest, n)
	r.pass(n, ok)
	return v
}

func (r *reader) id() api.OpId {
	var id api.OpId
	id.Client = uint32(r.number(clientSize))
	id.Seq = uint32(r.number(seqSize))
	id.Nest = uint16(r.number(nestSize))
	return id
}

func (r *reader) name() string {
	s, n, err := wire.ReadText(r.rest, api.MaxName)
	r.pass(n, err == api.OK)
	return s
}

func (r *reader) value() api.Value {
	v, n, err := wire.Read(r.rest)
	r.pass(n, err == api.OK)
	return v
}

// args reads a count and so many values.
func (r *reader) args() []api.Value {
	count := r.number(countSize)
	if count > api.MaxArgs {
		r.pass(0, false)
		return nil
	}
	var l []api.Value
	for range count {
		l = append(l, r.value())
	}
	return l
}
