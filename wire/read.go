package wire

import (
	"math"

	"choir/api"
	"choir/num"
)

// readValue gives the value that b begins with, and how many bytes it took. It
// may be too great in all ways that value.Check asks for.
func readValue(b []byte) (api.Value, int, bool) {
	kind, ok := ReadU(b, 1)
	if !ok {
		return api.Value{}, 0, false
	}
	rest := b[1:]
	switch kind {
	case api.Nil:
		return api.Value{}, 1, true
	case api.Int:
		i, ok := ReadU(rest, 8)
		return api.Value{Kind: api.Int, I: int64(i)}, 1 + 8, ok
	case api.Float:
		f, ok := readFloat(rest)
		return api.Value{Kind: api.Float, F: f}, 1 + 8, ok
	case api.Text:
		s, n, err := ReadText(rest, api.MaxText)
		return api.Value{Kind: api.Text, S: s}, 1 + n, err == api.OK
	case api.List:
		l, n, ok := readList(rest)
		return api.Value{Kind: api.List, L: l}, 1 + n, ok
	}
	return api.Value{}, 0, false
}

// readFloat refuses a NaN of other bits than the one: its bits don't come back.
func readFloat(b []byte) (float64, bool) {
	bits, ok := ReadU(b, 8)
	f := math.Float64frombits(bits)
	return f, ok && num.Bits(f) == bits
}

// readList lets the list grow with the bytes that are there: a count alone
// makes no room.
func readList(b []byte) ([]api.Value, int, bool) {
	count, ok := ReadU(b, 1)
	if !ok {
		return nil, 0, false
	}
	var l []api.Value
	n := 1
	for range count {
		v, took, ok := readValue(b[n:])
		if !ok {
			return nil, 0, false
		}
		l = append(l, v)
		n += took
	}
	return l, n, true
}
