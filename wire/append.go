package wire

import (
	"choir/api"
	"choir/num"
)

// roomy gives b's bytes with room for more. The room is new: what lies behind
// b belongs to the caller.
func roomy(b []byte, more int) []byte {
	return append(make([]byte, 0, len(b)+more), b...)
}

func appendU(b []byte, v uint64, n int) []byte {
	for i := n - 1; i >= 0; i-- {
		b = append(b, byte(v>>(8*i)))
	}
	return b
}

func appendText(b []byte, s string) []byte {
	return append(appendU(b, uint64(len(s)), 2), s...)
}

// appendValue takes what value.Check lets through: kinds and lengths fit their
// bytes. It looks at what a kind has alone, so v needn't be cleaned ahead.
func appendValue(b []byte, v api.Value) []byte {
	b = append(b, byte(v.Kind))
	switch v.Kind {
	case api.Int:
		return appendU(b, uint64(v.I), 8)
	case api.Float:
		return appendU(b, num.Bits(v.F), 8)
	case api.Text:
		return appendText(b, v.S)
	case api.List:
		return appendList(b, v.L)
	}
	return b
}

func appendList(b []byte, l []api.Value) []byte {
	b = append(b, byte(len(l)))
	for _, v := range l {
		b = appendValue(b, v)
	}
	return b
}
