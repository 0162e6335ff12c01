package num_test

import (
	"math"
	"math/big"
	"reflect"
	"testing"

	"choir/api"
	"choir/num"
)

const canonNaN = 0x7ff8000000000001

// operation: one of the four, and what it is of exact numbers.
type operation struct {
	name  string
	do    func(a, b api.Value) (api.Value, api.Errno)
	whole func(z, x, y *big.Int) *big.Int
	ratio func(z, x, y *big.Rat) *big.Rat
}

func operations() []operation {
	return []operation{
		{"Add", num.Add, (*big.Int).Add, (*big.Rat).Add},
		{"Sub", num.Sub, (*big.Int).Sub, (*big.Rat).Sub},
		{"Mul", num.Mul, (*big.Int).Mul, (*big.Rat).Mul},
		{"Div", num.Div, (*big.Int).Quo, (*big.Rat).Quo},
	}
}

func whole(i int64) api.Value { return api.Value{Kind: api.Int, I: i} }

func float(f float64) api.Value { return api.Value{Kind: api.Float, F: f} }

func text(s string) api.Value { return api.Value{Kind: api.Text, S: s} }

func negativeZero() float64 { return math.Copysign(0, -1) }

func edgeInts() []int64 {
	return []int64{
		math.MinInt64, math.MinInt64 + 1, math.MinInt64 / 2, math.MinInt64/2 - 1,
		-1 << 53, -1<<53 - 1, -3037000500, -3037000499, -1 << 32, -1 << 31, -10, -3, -2, -1, 0, 1, 2, 3, 7, 10,
		1 << 31, 1 << 32, 3037000499, 3037000500, 1 << 53, 1<<53 + 1, 1<<53 + 3, 1 << 62, 1<<62 + 1,
		math.MaxInt64 - 512, math.MaxInt64 - 511, math.MaxInt64 - 1, math.MaxInt64,
	}
}

func edgeFloats() []float64 {
	return []float64{
		-math.MaxFloat64, -1e16, -9223372036854775808, -3.7, -1, -0.1, -math.SmallestNonzeroFloat64, negativeZero(),
		0, math.SmallestNonzeroFloat64, 2.2250738585072009e-308, 2.2250738585072014e-308, 0.1, 0.3, 1, 1 + 1.0/(1<<52), 3,
		9007199254740991, 9007199254740992, 9223372036854775808, 1e16, 1e154, 1.5e154, 1e308, math.MaxFloat64,
	}
}

// wantNumber holds the whole answer against want: the fields of other kinds
// are zero, floats are the same to the last bit.
func wantNumber(t *testing.T, what string, got api.Value, err api.Errno, want api.Value) {
	t.Helper()
	gotBits, wantBits := math.Float64bits(got.F), math.Float64bits(want.F)
	got.F, want.F = 0, 0
	if err != api.OK || gotBits != wantBits || !reflect.DeepEqual(got, want) {
		t.Errorf("%s: %+v with bits %016x, %v; wanted %+v with bits %016x", what, got, gotBits, err, want, wantBits)
	}
}

func wantError(t *testing.T, what string, got api.Value, err, want api.Errno) {
	t.Helper()
	if err != want || !reflect.DeepEqual(got, api.Value{}) {
		t.Errorf("%s: %+v, %v; wanted no value, %v", what, got, err, want)
	}
}

func wantBits(t *testing.T, what string, got api.Value, err api.Errno, bits uint64) {
	t.Helper()
	wantNumber(t, what, got, err, float(math.Float64frombits(bits)))
}

// P1.1: of two Int the Int, or ErrRange.
func TestWholeNumbers(t *testing.T) {
	for _, o := range operations() {
		for _, x := range edgeInts() {
			for _, y := range edgeInts() {
				what := o.name + " " + big.NewInt(x).String() + " " + big.NewInt(y).String()
				got, err := o.do(whole(x), whole(y))
				if o.name == "Div" && y == 0 {
					wantError(t, what, got, err, api.ErrRange)
					continue
				}
				exact := o.whole(new(big.Int), big.NewInt(x), big.NewInt(y))
				if exact.IsInt64() {
					wantNumber(t, what, got, err, whole(exact.Int64()))
				} else {
					wantError(t, what, got, err, api.ErrRange)
				}
			}
		}
	}
}

func TestDivCutsTowardsZero(t *testing.T) {
	for _, c := range []struct{ x, y, want int64 }{{7, 2, 3}, {-7, 2, -3}, {7, -2, -3}, {-7, -2, 3}, {1, 2, 0}, {-1, 2, 0}} {
		got, err := num.Div(whole(c.x), whole(c.y))
		wantNumber(t, "Div", got, err, whole(c.want))
	}
}

// checkRounded holds an operation against the exact result, rounded once.
func checkRounded(t *testing.T, o operation, a, b api.Value, x, y float64) {
	t.Helper()
	if y == 0 && o.name == "Div" {
		return
	}
	exact := o.ratio(new(big.Rat), new(big.Rat).SetFloat64(x), new(big.Rat).SetFloat64(y))
	if exact.Sign() == 0 {
		return // the sign of nought has a test of its own
	}
	want, _ := exact.Float64()
	if want == 0 && exact.Sign() < 0 {
		want = negativeZero() // cut down to nought, but from below
	}
	got, err := o.do(a, b)
	wantNumber(t, o.name, got, err, float(want))
}

// P1.1: of two Float the operation's Float, rounded once.
func TestFloatsAreRoundedOnce(t *testing.T) {
	for _, o := range operations() {
		for _, x := range edgeFloats() {
			for _, y := range edgeFloats() {
				checkRounded(t, o, float(x), float(y), x, y)
			}
		}
	}
}

// nearest gives the float nearest to i by way of exact numbers.
func nearest(i int64) float64 {
	f, _ := new(big.Rat).SetInt64(i).Float64()
	return f
}

// P1.1: an Int beside a Float counts as the Float nearest to it.
func TestIntBesideFloat(t *testing.T) {
	for _, o := range operations() {
		for _, i := range edgeInts() {
			for _, f := range edgeFloats() {
				checkRounded(t, o, whole(i), float(f), nearest(i), f)
				checkRounded(t, o, float(f), whole(i), f, nearest(i))
			}
		}
	}
	// 2^53 + 1 is rounded before the half is added: 2^53, not 2^53 + 2.
	got, err := num.Add(whole(1<<53+1), float(0.5))
	wantNumber(t, "Add of 2^53+1 and 0.5", got, err, float(1<<53))
	// Two Int stay Int where their Float would lose a bit.
	got, err = num.Add(whole(1<<53), whole(1))
	wantNumber(t, "Add of 2^53 and 1", got, err, whole(1<<53+1))
}

// P1.1: noughts with signs, infinities, NaN.
func TestFloatEdges(t *testing.T) {
	inf, low, zero := math.Inf(1), math.Inf(-1), negativeZero()
	plusInf, minusInf, minusZero := math.Float64bits(inf), math.Float64bits(low), uint64(1)<<63
	for _, c := range []struct {
		what string
		do   func(a, b api.Value) (api.Value, api.Errno)
		a, b api.Value
		bits uint64
	}{
		{"1.0 / 0", num.Div, float(1), whole(0), plusInf},
		{"1 / 0.0", num.Div, whole(1), float(0), plusInf},
		{"1 / -0.0", num.Div, whole(1), float(zero), minusInf},
		{"-1.0 / 0", num.Div, float(-1), whole(0), minusInf},
		{"0.0 / 0", num.Div, float(0), whole(0), canonNaN},
		{"0 / -0.0", num.Div, whole(0), float(zero), canonNaN},
		{"inf / inf", num.Div, float(inf), float(low), canonNaN},
		{"1 / -inf", num.Div, whole(1), float(low), minusZero},
		{"inf - inf", num.Sub, float(inf), float(inf), canonNaN},
		{"inf + -inf", num.Add, float(inf), float(low), canonNaN},
		{"-inf - inf", num.Sub, float(low), float(inf), minusInf},
		{"inf * 0", num.Mul, float(inf), whole(0), canonNaN},
		{"inf * -1", num.Mul, float(inf), whole(-1), minusInf},
		{"-0.0 + -0.0", num.Add, float(zero), float(zero), minusZero},
		{"-0.0 + 0", num.Add, float(zero), whole(0), 0},
		{"-0.0 - 0", num.Sub, float(zero), whole(0), minusZero},
		{"1.0 - 1", num.Sub, float(1), whole(1), 0},
		{"-0.0 * 3", num.Mul, float(zero), whole(3), minusZero},
		{"0 * -3.0", num.Mul, whole(0), float(-3), minusZero},
		{"0.0 / -3", num.Div, float(0), whole(-3), minusZero},
		{"most * 2", num.Mul, float(math.MaxFloat64), whole(2), plusInf},
		{"least / 2", num.Div, float(-math.SmallestNonzeroFloat64), whole(2), minusZero},
	} {
		got, err := c.do(c.a, c.b)
		wantBits(t, c.what, got, err, c.bits)
	}
}

// nanBits: the bits of NaNs of all sorts.
func nanBits() []uint64 {
	return []uint64{
		0x7ff8000000000000, 0x7ff8000000000001, 0x7ff8000000000002, 0x7ff0000000000001, 0x7fffffffffffffff,
		0xfff8000000000000, 0xfff8000000000001, 0xfff0000000000001, 0xffffffffffffffff,
	}
}

// P1.1: every NaN that goes in comes out as the one.
func TestNaNIsCanonical(t *testing.T) {
	for _, b := range nanBits() {
		nan := math.Float64frombits(b)
		if got := math.Float64bits(num.Canon(nan)); got != canonNaN {
			t.Errorf("Canon of %016x: %016x", b, got)
		}
		if got := num.Bits(nan); got != canonNaN {
			t.Errorf("Bits of %016x: %016x", b, got)
		}
		for _, o := range operations() {
			for _, other := range []api.Value{whole(0), whole(1), float(1), float(math.Inf(-1)), float(nan)} {
				got, err := o.do(float(nan), other)
				wantBits(t, o.name+" of NaN", got, err, canonNaN)
				got, err = o.do(other, float(nan))
				wantBits(t, o.name+" with NaN", got, err, canonNaN)
			}
		}
		got, err := num.Sum(float(nan))
		wantBits(t, "Sum of NaN", got, err, canonNaN)
	}
}

// P1.1: Canon and Bits leave what is no NaN as it is.
func TestCanonKeepsNumbers(t *testing.T) {
	for _, f := range append(edgeFloats(), math.Inf(1), math.Inf(-1)) {
		want := math.Float64bits(f)
		if got := math.Float64bits(num.Canon(f)); got != want {
			t.Errorf("Canon of %v: bits %016x, wanted %016x", f, got, want)
		}
		if got := num.Bits(f); got != want {
			t.Errorf("Bits of %v: %016x, wanted %016x", f, got, want)
		}
	}
}

func noNumbers() []api.Value {
	return []api.Value{
		{}, {I: 5, F: 5}, text(""), text("1"), {Kind: api.Text, I: 1, F: 1}, {Kind: api.List},
		{Kind: api.List, L: []api.Value{whole(1)}}, {Kind: -1, I: 1}, {Kind: 5, F: 1}, {Kind: 9}, {Kind: math.MaxInt}, {Kind: math.MinInt},
	}
}

// P1.1: ErrBadArgs unless both are numbers, whatever ErrRange would say.
func TestNoNumbers(t *testing.T) {
	for _, o := range operations() {
		for _, bad := range noNumbers() {
			for _, v := range []api.Value{whole(0), whole(math.MaxInt64), float(1), float(math.NaN()), bad} {
				got, err := o.do(v, bad)
				wantError(t, o.name, got, err, api.ErrBadArgs)
				got, err = o.do(bad, v)
				wantError(t, o.name, got, err, api.ErrBadArgs)
			}
		}
	}
}

// P1.1: only the field of its kind counts in a number, and only that one is
// in the answer.
func TestFieldsOfOtherKinds(t *testing.T) {
	i := api.Value{Kind: api.Int, I: 6, F: math.NaN(), S: "x", L: []api.Value{whole(1)}}
	f := api.Value{Kind: api.Float, I: 9, F: 1.5, S: "y", L: []api.Value{whole(2)}}
	got, err := num.Add(i, i)
	wantNumber(t, "Int and Int", got, err, whole(12))
	got, err = num.Sub(i, f)
	wantNumber(t, "Int and Float", got, err, float(4.5))
	got, err = num.Div(f, f)
	wantNumber(t, "Float and Float", got, err, float(1))
	got, err = num.Sum(i)
	wantNumber(t, "Sum of Int", got, err, whole(6))
	got, err = num.Sum(f, i)
	wantNumber(t, "Sum of Float and Int", got, err, float(7.5))
	if num.Sign(i) != 1 || num.Sign(f) != 1 || !num.Finite(i) || !num.Finite(f) {
		t.Error("Sign or Finite looked at a field of another kind")
	}
}

// P1.2: Sum adds from the left, beginning with Int 0.
func TestSum(t *testing.T) {
	most := whole(math.MaxInt64)
	for _, c := range []struct {
		what string
		l    []api.Value
		want api.Value
	}{
		{"nothing", nil, whole(0)},
		{"an empty list", []api.Value{}, whole(0)},
		{"one", []api.Value{whole(-4)}, whole(-4)},
		{"Int", []api.Value{whole(1), whole(2), whole(3)}, whole(6)},
		{"Int and Float", []api.Value{whole(1), float(0.5), whole(2)}, float(3.5)},
		{"Int as Int as long as it can be", []api.Value{whole(1 << 53), whole(1), float(0)}, float(1 << 53)},
		{"Int behind a Float", []api.Value{float(1 << 53), whole(1), whole(1)}, float(1 << 53)},
		{"floats from the left", []api.Value{float(1e16), float(1), float(1), float(-1e16)}, float(0)},
		{"floats from the other end", []api.Value{float(-1e16), float(1e16), float(1), float(1)}, float(2)},
		{"Int 0 and nought from below", []api.Value{float(negativeZero())}, float(0)},
		{"back from the edge", []api.Value{most, whole(-1), whole(1)}, most},
		{"past the edge as a Float", []api.Value{float(0), most, most}, float(1 << 64)},
	} {
		got, err := num.Sum(c.l...)
		wantNumber(t, c.what, got, err, c.want)
	}
}

// P1.2: the first error.
func TestSumTellsTheFirstError(t *testing.T) {
	most := whole(math.MaxInt64)
	for _, c := range []struct {
		what string
		l    []api.Value
		want api.Errno
	}{
		{"a text", []api.Value{text("1")}, api.ErrBadArgs},
		{"a text at the end", []api.Value{whole(1), float(2), text("1")}, api.ErrBadArgs},
		{"too great", []api.Value{most, whole(1)}, api.ErrRange},
		{"too small", []api.Value{whole(math.MinInt64), whole(-1)}, api.ErrRange},
		{"too great on the way", []api.Value{most, whole(1), whole(-1)}, api.ErrRange},
		{"too great ahead of a Float", []api.Value{most, whole(1), float(0)}, api.ErrRange},
		{"too great ahead of a text", []api.Value{most, whole(1), text("x")}, api.ErrRange},
		{"a text ahead of too great", []api.Value{most, text("x"), whole(1)}, api.ErrBadArgs},
		{"nil", []api.Value{{}}, api.ErrBadArgs},
	} {
		got, err := num.Sum(c.l...)
		wantError(t, c.what, got, err, c.want)
	}
}

// P1.2: Sign and Finite.
func TestSignAndFinite(t *testing.T) {
	for _, c := range []struct {
		v      api.Value
		sign   int
		finite bool
	}{
		{whole(0), 0, true}, {whole(1), 1, true}, {whole(-1), -1, true},
		{whole(math.MaxInt64), 1, true}, {whole(math.MinInt64), -1, true},
		{float(0), 0, true}, {float(negativeZero()), 0, true},
		{float(math.SmallestNonzeroFloat64), 1, true}, {float(-math.SmallestNonzeroFloat64), -1, true},
		{float(math.MaxFloat64), 1, true}, {float(-math.MaxFloat64), -1, true},
		{float(math.Inf(1)), 1, false}, {float(math.Inf(-1)), -1, false},
	} {
		if s, f := num.Sign(c.v), num.Finite(c.v); s != c.sign || f != c.finite {
			t.Errorf("%+v: Sign %d, Finite %v; wanted %d, %v", c.v, s, f, c.sign, c.finite)
		}
	}
	none := noNumbers()
	for _, b := range nanBits() {
		none = append(none, float(math.Float64frombits(b)))
	}
	for _, v := range none {
		if s, f := num.Sign(v), num.Finite(v); s != 0 || f {
			t.Errorf("%+v: Sign %d, Finite %v; wanted 0, false", v, s, f)
		}
	}
}

// P1.3: nodes that add alike are alike: NaNs of different origin leave no
// difference, and the same numbers give the same bits each time.
func TestNodesThatAddAlike(t *testing.T) {
	var first uint64
	for i, b := range nanBits() {
		l := []api.Value{whole(3), float(0.1), float(math.Float64frombits(b)), float(0.2)}
		got, err := num.Sum(l...)
		if i == 0 {
			first = math.Float64bits(got.F)
		}
		wantBits(t, "Sum over NaN", got, err, first)
	}
	l := []api.Value{float(0.1), float(0.2), float(0.3), whole(7), float(1e16), float(-1e16)}
	once, err1 := num.Sum(l...)
	again, err2 := num.Sum(l...)
	wantNumber(t, "the same again", again, err2, once)
	if err1 != api.OK {
		t.Error(err1)
	}
}

// The rules that hold everywhere: what is handed in stays as it is, the spare
// room behind it too.
func TestArgumentsStay(t *testing.T) {
	nan := math.Float64frombits(0xfff0000000000001)
	room := []api.Value{whole(1), float(nan), whole(2), text("spare"), whole(9)}
	if _, err := num.Sum(room[:3]...); err != api.OK {
		t.Fatal(err)
	}
	if room[0].I != 1 || math.Float64bits(room[1].F) != 0xfff0000000000001 || room[2].I != 2 || room[3].S != "spare" || room[4].I != 9 {
		t.Errorf("the list was changed: %+v", room)
	}
}
