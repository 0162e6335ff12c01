package opid_test

import (
	"bytes"
	"encoding/binary"
	"math"
	"math/big"
	"regexp"
	"slices"
	"strings"
	"testing"

	"choir/api"
	"choir/opid"
)

// edges32 and edges16: numbers of an id at which something may turn, rising.
var (
	edges32 = []uint32{0, 1, 2, 7, 9, 10, 11, 99, 100, 255, 256, 65535, 65536, 65537, 999999999, 1000000000, 1<<31 - 1, 1 << 31, math.MaxUint32 - 1, math.MaxUint32}
	edges16 = []uint16{0, 1, 2, api.MaxSteps - 1, api.MaxSteps, api.MaxSteps + 1, 10, 99, 255, 256, 1<<15 - 1, 1 << 15, math.MaxUint16 - 1, math.MaxUint16}
)

// ids gives each id of these numbers once, in the order of Client, Seq, Nest.
func ids() []api.OpId {
	var l []api.OpId
	for _, client := range edges32 {
		for _, seq := range edges32 {
			for _, nest := range edges16 {
				l = append(l, api.OpId{Client: client, Seq: seq, Nest: nest})
			}
		}
	}
	return l
}

// known: texts of ids, written out.
var known = []struct {
	id   api.OpId
	text string
}{
	{api.OpId{Client: 7, Seq: 3, Nest: 1}, "7-3.1"},
	{api.OpId{Client: 7, Seq: 3}, "7-3"},
	{api.OpId{}, "0-0"},
	{api.OpId{Client: 1}, "1-0"},
	{api.OpId{Seq: 1}, "0-1"},
	{api.OpId{Nest: 1}, "0-0.1"},
	{api.OpId{Client: 10, Seq: 200, Nest: 30}, "10-200.30"},
	{api.OpId{Client: 7, Seq: 3, Nest: api.MaxSteps}, "7-3.8"},
	{api.OpId{Client: 7, Seq: 3, Nest: api.MaxSteps + 1}, "7-3.9"},
	{api.OpId{Client: 1 << 31, Seq: 1 << 31, Nest: 1 << 15}, "2147483648-2147483648.32768"},
	{api.OpId{Client: math.MaxUint32, Seq: math.MaxUint32}, "4294967295-4294967295"},
	{api.OpId{Client: math.MaxUint32, Seq: math.MaxUint32, Nest: math.MaxUint16}, "4294967295-4294967295.65535"},
}

// P5.1: Text tells Client, Seq and, if it isn't 0, Nest.
func TestText(t *testing.T) {
	for _, c := range known {
		if got := opid.Text(c.id); got != c.text {
			t.Errorf("Text(%v): %q; wanted %q", c.id, got, c.text)
		}
	}
	for _, id := range ids() {
		if got, want := opid.Text(id), toldBig(id); got != want {
			t.Errorf("Text(%v): %q; wanted %q", id, got, want)
		}
	}
}

// toldBig tells an id by numbers without a bound.
func toldBig(id api.OpId) string {
	parts := new(big.Int).SetUint64(uint64(id.Client)).String() + "-" + new(big.Int).SetUint64(uint64(id.Seq)).String()
	if id.Nest == 0 {
		return parts
	}
	return parts + "." + new(big.Int).SetUint64(uint64(id.Nest)).String()
}

// P5.1: Parse gives the id that has just this Text.
func TestParse(t *testing.T) {
	for _, c := range known {
		if got, ok := opid.Parse(c.text); !ok || got != c.id {
			t.Errorf("Parse(%q): %v, %v; wanted %v", c.text, got, ok, c.id)
		}
	}
	for _, id := range ids() {
		s := opid.Text(id)
		if got, ok := opid.Parse(s); !ok || got != id {
			t.Errorf("Parse(%q): %v, %v; wanted %v", s, got, ok, id)
		}
	}
}

// P5.1: Parse refuses what is no id's Text, and answers the zero id then.
func TestParseRefuses(t *testing.T) {
	for _, s := range []string{
		"", " ", "-", ".", "-.", "--", "nil", "\x00", "\xff", "0", "7", "7-", "-3", "-3.1", "7-.1", "-.1", "7.1", "7.3-1", ".1", "7-3.", "7--3", "7-3..1",
		"07-3", "7-03", "7-3.01", "00-0", "0-00", "7-3.0", "7-3.00", "0-0.0", "-0-0", "0--0", "7-3.-1", "-7-3.1",
		"+7-3", "7-+3", "7-3.+1", " 7-3", "7-3 ", "7 -3", "7- 3", "7-3.1 ", "7-3 .1", "7-3. 1", "\t7-3", "7-3\n", "7-3.1\x00", "7-3\x00", "\ufeff7-3",
		"7-3.1.1", "7-3-1", "7-3.1-1", "7-3.1.", "7-3.1-", "7-3,1", "7_3", "7–3", "7-3·1", "7:3.1", "7/3.1",
		"1_0-3", "7-1_0", "7-3.1_0", "0x7-3", "7-0x3", "7-3.0x1", "7e1-3", "7-3e1", "7.0-3", "a-3", "7-b", "7-3.c", "٧-٣", "７-３", "\"7-3\"", "(7-3)",
		"4294967296-3", "7-4294967296", "7-3.65536", "4294967303-3", "7-4294967299", "7-3.65537", "18446744073709551616-3", "18446744073709551623-3",
		"7-18446744073709551619", "7-3.18446744073709551617", "99999999999-3", "7-99999999999", "7-3.99999", "7-3.4294967297",
		strings.Repeat("9", 5000) + "-3", "7-" + strings.Repeat("9", 5000), "7-3." + strings.Repeat("1", 5000), strings.Repeat("0", 5000) + "7-3", strings.Repeat("-", 5000), strings.Repeat("7-3.1", 2000),
	} {
		if got, ok := opid.Parse(s); ok || got != (api.OpId{}) {
			t.Errorf("Parse(%.60q): %v, %v; wanted none", s, got, ok)
		}
	}
}

// form: how a Text looks; its numbers may be too great yet.
var form = regexp.MustCompile(`\A(0|[1-9][0-9]*)-(0|[1-9][0-9]*)(?:\.([1-9][0-9]*))?\z`)

// read gives the id of a Text in another way than Parse does.
func read(s string) (api.OpId, bool) {
	parts := form.FindStringSubmatch(s)
	if parts == nil {
		return api.OpId{}, false
	}
	var n [3]uint64
	for i, most := range []uint64{math.MaxUint32, math.MaxUint32, math.MaxUint16} {
		x := new(big.Int)
		x.SetString("0"+parts[i+1], 10)
		if x.Cmp(new(big.Int).SetUint64(most)) > 0 {
			return api.OpId{}, false
		}
		n[i] = x.Uint64()
	}
	return api.OpId{Client: uint32(n[0]), Seq: uint32(n[1]), Nest: uint16(n[2])}, true
}

// holdParse holds Parse against read.
func holdParse(t *testing.T, s string) {
	t.Helper()
	want, right := read(s)
	if got, ok := opid.Parse(s); ok != right || got != want {
		t.Errorf("Parse(%q): %v, %v; wanted %v, %v", s, got, ok, want, right)
	}
}

// P5.1: Parse at all short strings of the bytes that a Text has, and of some
// that it hasn't.
func TestParseShort(t *testing.T) {
	level := []string{""}
	for range 6 {
		var longer []string
		for _, s := range level {
			holdParse(t, s)
			for _, x := range "012-.+" {
				longer = append(longer, s+string(x))
			}
		}
		level = longer
	}
}

// P5.1: Parse at strings that are a byte away from a Text.
func TestParseNear(t *testing.T) {
	put := "0123456789-.+_ ex\x00\xff"
	for _, c := range known {
		for i := range len(c.text) + 1 {
			holdParse(t, c.text[:i])
			holdParse(t, c.text[i:])
			for _, x := range []byte(put) {
				holdParse(t, c.text[:i]+string([]byte{x})+c.text[i:])
				if i < len(c.text) {
					holdParse(t, c.text[:i]+string([]byte{x})+c.text[i+1:])
				}
			}
			if i < len(c.text) {
				holdParse(t, c.text[:i]+c.text[i+1:])
			}
		}
	}
}

// key gives bytes that are in order as ids are.
func key(id api.OpId) []byte {
	b := binary.BigEndian.AppendUint32(nil, id.Client)
	b = binary.BigEndian.AppendUint32(b, id.Seq)
	return binary.BigEndian.AppendUint16(b, id.Nest)
}

// P5.1: Less is by Client, then Seq, then Nest.
func TestLess(t *testing.T) {
	for _, c := range []struct {
		a, b api.OpId
		want bool
	}{
		{api.OpId{}, api.OpId{}, false},
		{api.OpId{Client: 7, Seq: 3, Nest: 1}, api.OpId{Client: 7, Seq: 3, Nest: 1}, false},
		{api.OpId{Client: 1}, api.OpId{Client: 2}, true},
		{api.OpId{Client: 2}, api.OpId{Client: 1}, false},
		{api.OpId{Seq: 1}, api.OpId{Seq: 2}, true},
		{api.OpId{Seq: 2}, api.OpId{Seq: 1}, false},
		{api.OpId{Nest: 1}, api.OpId{Nest: 2}, true},
		{api.OpId{Nest: 2}, api.OpId{Nest: 1}, false},
		{api.OpId{Seq: 3}, api.OpId{Seq: 3, Nest: 1}, true},
		{api.OpId{Client: 1, Seq: 9, Nest: 9}, api.OpId{Client: 2}, true},
		{api.OpId{Client: 2}, api.OpId{Client: 1, Seq: 9, Nest: 9}, false},
		{api.OpId{Client: 1, Seq: 1, Nest: 9}, api.OpId{Client: 1, Seq: 2}, true},
		{api.OpId{Client: 1, Seq: 2}, api.OpId{Client: 1, Seq: 1, Nest: 9}, false},
		{api.OpId{Client: 9}, api.OpId{Client: 10}, true},
		{api.OpId{Client: math.MaxUint32}, api.OpId{Client: 0}, false},
		{api.OpId{Client: 0}, api.OpId{Client: math.MaxUint32}, true},
		{api.OpId{Seq: 1<<31 - 1}, api.OpId{Seq: 1 << 31}, true},
		{api.OpId{Seq: math.MaxUint32}, api.OpId{Seq: 1}, false},
		{api.OpId{Nest: 1<<15 - 1}, api.OpId{Nest: 1 << 15}, true},
		{api.OpId{Nest: math.MaxUint16}, api.OpId{Nest: 1}, false},
	} {
		if got := opid.Less(c.a, c.b); got != c.want {
			t.Errorf("Less(%v, %v): %v", c.a, c.b, got)
		}
	}
	few := slices.DeleteFunc(ids(), func(id api.OpId) bool { return (id.Client+3*id.Seq+uint32(id.Nest))%7 != 0 })
	for _, a := range few {
		for _, b := range few {
			if got, want := opid.Less(a, b), bytes.Compare(key(a), key(b)) < 0; got != want {
				t.Errorf("Less(%v, %v): %v", a, b, got)
			}
		}
	}
}

// P5.1: a list that is sorted by Less is by Client, Seq, Nest.
func TestLessSorts(t *testing.T) {
	want := ids()
	got := slices.Clone(want)
	slices.Reverse(got)
	slices.SortFunc(got, func(a, b api.OpId) int {
		switch {
		case opid.Less(a, b):
			return -1
		case opid.Less(b, a):
			return 1
		}
		return 0
	})
	if !slices.Equal(got, want) {
		t.Error("sorted by Less: another order")
	}
}

// P5.1: Nested gives id with Nest n, n from 1 to MaxSteps.
func TestNested(t *testing.T) {
	for _, client := range edges32 {
		for _, seq := range edges32 {
			id := api.OpId{Client: client, Seq: seq}
			for n := 1; n <= api.MaxSteps; n++ {
				want := api.OpId{Client: client, Seq: seq, Nest: uint16(n)}
				if got, ok := opid.Nested(id, n); !ok || got != want {
					t.Errorf("Nested(%v, %d): %v, %v", id, n, got, ok)
				}
			}
		}
	}
}

// P5.1: Nested of another n is none, and n doesn't wrap.
func TestNestedBounds(t *testing.T) {
	for _, n := range []int{0, -1, -2, -api.MaxSteps, api.MaxSteps + 1, api.MaxSteps + 2, 255, 256, 257, 65535, 65536, 65537, 65536 + api.MaxSteps, 1 - 65536, 1<<32 + 1, 1 - 1<<32, math.MaxInt, math.MinInt, math.MinInt + 1} {
		for _, id := range []api.OpId{{}, {Client: 7, Seq: 3}, {Client: math.MaxUint32, Seq: math.MaxUint32}} {
			if got, ok := opid.Nested(id, n); ok || got != (api.OpId{}) {
				t.Errorf("Nested(%v, %d): %v, %v", id, n, got, ok)
			}
		}
	}
}

// P5.1: Nested of what is nested is none.
func TestNestedOfNested(t *testing.T) {
	for _, nest := range edges16[1:] {
		id := api.OpId{Client: 7, Seq: 3, Nest: nest}
		for n := -1; n <= api.MaxSteps+1; n++ {
			if got, ok := opid.Nested(id, n); ok || got != (api.OpId{}) {
				t.Errorf("Nested(%v, %d): %v, %v", id, n, got, ok)
			}
		}
		if got, ok := opid.Nested(id, int(nest)); ok || got != (api.OpId{}) {
			t.Errorf("Nested(%v, %d): %v, %v", id, nest, got, ok)
		}
	}
}

// P5.1: Root gives id with Nest 0.
func TestRoot(t *testing.T) {
	for _, id := range ids() {
		if got, want := opid.Root(id), (api.OpId{Client: id.Client, Seq: id.Seq}); got != want {
			t.Errorf("Root(%v): %v", id, got)
		}
	}
}

// P5.2: each call, nested or not, has one id, and each id one Text: none is
// that of two calls, and Root leads back from each nested one.
func TestOneId(t *testing.T) {
	calls, texts := map[api.OpId]int{}, map[string]int{}
	total := 0
	add := func(id api.OpId) {
		calls[id]++
		texts[opid.Text(id)]++
		total++
	}
	for _, client := range []uint32{0, 1, 11, 111, math.MaxUint32} {
		for _, seq := range []uint32{0, 1, 11, 111, math.MaxUint32} {
			root := api.OpId{Client: client, Seq: seq}
			add(root)
			for n := 1; n <= api.MaxSteps; n++ {
				id, ok := opid.Nested(root, n)
				if !ok || opid.Root(id) != root || !opid.Less(root, id) {
					t.Errorf("Nested(%v, %d): %v, %v", root, n, id, ok)
				}
				add(id)
			}
		}
	}
	if len(calls) != total || len(texts) != total {
		t.Errorf("%d calls: %d ids, %d texts", total, len(calls), len(texts))
	}
}
