// Package num: Numbers: see doc/01-num.md.
package num

import (
	"math"

	"choir/api"
)

// canonNaN: the bits of the one NaN that is answered.
const canonNaN uint64 = 0x7ff8000000000001

// Canon gives f; for any NaN the canonical one.
func Canon(f float64) float64 {
	if f != f {
		return math.Float64frombits(canonNaN)
	}
	return f
}

// Bits gives the bits of Canon(f).
func Bits(f float64) uint64 { return math.Float64bits(Canon(f)) }

// Add gives a + b.
func Add(a, b api.Value) (api.Value, api.Errno) { return operate(a, b, addInts, addFloats) }

// Sub gives a - b.
func Sub(a, b api.Value) (api.Value, api.Errno) { return operate(a, b, subInts, subFloats) }

// Mul gives a * b.
func Mul(a, b api.Value) (api.Value, api.Errno) { return operate(a, b, mulInts, mulFloats) }

// Div gives a / b; of two Int it cuts towards 0.
func Div(a, b api.Value) (api.Value, api.Errno) { return operate(a, b, divInts, divFloats) }

// Sum adds l, from the left, to Int 0.
func Sum(l ...api.Value) (api.Value, api.Errno) {
	total := ofInt(0)
	for _, v := range l {
		next, err := Add(total, v)
		if err != api.OK {
			return api.Value{}, err
		}
		total = next
	}
	return total, api.OK
}

// Sign gives -1, 0 or 1; of what is no number, and of NaN, 0.
func Sign(v api.Value) int {
	switch {
	case !isNumber(v):
		return 0
	case v.Kind == api.Int:
		return sign(v.I)
	}
	return sign(v.F)
}

// Finite tells whether v is a number, and neither NaN nor an infinity.
func Finite(v api.Value) bool {
	if v.Kind == api.Float {
		return v.F == v.F && !math.IsInf(v.F, 0)
	}
	return v.Kind == api.Int
}

// sign needs no case for NaN: it is neither below 0 nor above.
func sign[T int64 | float64](x T) int {
	switch {
	case x < 0:
		return -1
	case x > 0:
		return 1
	}
	return 0
}

func isNumber(v api.Value) bool { return v.Kind == api.Int || v.Kind == api.Float }

// ofInt and ofFloat make their values anew: what hangs on an argument beside
// its number must not come out again.
func ofInt(i int64) api.Value { return api.Value{Kind: api.Int, I: i} }

func ofFloat(f float64) api.Value { return api.Value{Kind: api.Float, F: Canon(f)} }

// toFloat gives a number's float; the conversion of an Int is rounded by
// itself, ahead of the operation's own rounding.
func toFloat(v api.Value) float64 {
	if v.Kind == api.Int {
		return float64(v.I)
	}
	return v.F
}

// operate does ints of two Int, else floats. ints tells false where there is
// no such Int.
func operate(a, b api.Value, ints func(x, y int64) (int64, bool), floats func(x, y float64) float64) (api.Value, api.Errno) {
	if !isNumber(a) || !isNumber(b) {
		return api.Value{}, api.ErrBadArgs
	}
	if a.Kind == api.Float || b.Kind == api.Float {
		return ofFloat(floats(toFloat(a), toFloat(b))), api.OK
	}
	i, ok := ints(a.I, b.I)
	if !ok {
		return api.Value{}, api.ErrRange
	}
	return ofInt(i), api.OK
}
