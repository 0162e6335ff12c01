package call

import (
	"choir/api"
	"choir/wire"
)

// How many bytes the numbers take.
const (
	clientSize = 4
	seqSize    = 4
	nestSize   = 2
	countSize  = 1
	errSize    = 2
)

// copied gives b's bytes in new memory: the room behind b belongs to the
// caller, so nothing is appended there.
func copied(b []byte) []byte { return append([]byte(nil), b...) }

// appendU puts a number onto b itself: wire.PutU alone would copy all that is
// there for each one.
func appendU(b []byte, v uint64, n int) []byte {
	return append(b, wire.PutU(nil, v, n)...)
}

func appendId(b []byte, id api.OpId) []byte {
	b = appendU(b, uint64(id.Client), clientSize)
	b = appendU(b, uint64(id.Seq), seqSize)
	return appendU(b, uint64(id.Nest), nestSize)
}

func appendNames(b []byte, names ...string) ([]byte, api.Errno) {
	for _, s := range names {
		name, err := wire.PutText(nil, s, api.MaxName)
		if err != api.OK {
			return nil, err
		}
		b = append(b, name...)
	}
	return b, api.OK
}

func appendValues(b []byte, l ...api.Value) ([]byte, api.Errno) {
	for _, v := range l {
		one, err := wire.Put(nil, v)
		if err != api.OK {
			return nil, err
		}
		b = append(b, one...)
	}
	return b, api.OK
}
