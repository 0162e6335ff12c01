package call_test

import (
	"bytes"
	"math"
	"reflect"
	"slices"
	"strings"
	"testing"
	"time"

	"choir/api"
	"choir/call"
	"choir/value"
	"choir/wire"
)

const (
	nought = "\x00\x00\x00\x00\x00\x00\x00\x00"
	oneNaN = "\x02\x7f\xf8\x00\x00\x00\x00\x00\x01"
	idSize = 4 + 4 + 2
)

func whole(i int64) api.Value { return api.Value{Kind: api.Int, I: i} }

func float(f float64) api.Value { return api.Value{Kind: api.Float, F: f} }

func nan(bits uint64) api.Value { return float(math.Float64frombits(bits)) }

func text(s string) api.Value { return api.Value{Kind: api.Text, S: s} }

func list(l ...api.Value) api.Value { return api.Value{Kind: api.List, L: l} }

func name(length int) string { return strings.Repeat("n", length) }

// crowded gives a kind with the fields of all others filled.
func crowded(kind int) api.Value {
	return api.Value{Kind: kind, I: 5, F: math.Inf(1), S: "y", L: []api.Value{text("z"), {I: 9}}}
}

// greatest gives a list of MaxSize, in texts.
func greatest() api.Value {
	var l []api.Value
	for size := api.MaxSize - 2; size > 0; size -= min(size, 203) {
		l = append(l, text(strings.Repeat("x", min(size, 203)-3)))
	}
	return list(l...)
}

// nested gives v in n lists.
func nested(n int, v api.Value) api.Value {
	for range n {
		v = list(v)
	}
	return v
}

// ring gives a list that holds itself.
func ring() api.Value {
	v := list(whole(1), api.Value{})
	v.L[1] = v
	return v
}

func with(args ...api.Value) api.Op {
	return api.Op{Id: api.OpId{Client: 7, Seq: 3}, Group: "g", Method: "m", Args: args}
}

// head: the bytes of with's id and names.
const head = "\x00\x00\x00\x07\x00\x00\x00\x03\x00\x00\x00\x01g\x00\x01m"

// ids: edges of ids, and their bytes.
var ids = []struct {
	id api.OpId
	b  string
}{
	{api.OpId{}, "\x00\x00\x00\x00\x00\x00\x00\x00\x00\x00"},
	{api.OpId{Client: 1}, "\x00\x00\x00\x01\x00\x00\x00\x00\x00\x00"},
	{api.OpId{Seq: 1}, "\x00\x00\x00\x00\x00\x00\x00\x01\x00\x00"},
	{api.OpId{Nest: 1}, "\x00\x00\x00\x00\x00\x00\x00\x00\x00\x01"},
	{api.OpId{Client: 0x01020304, Seq: 0x05060708, Nest: 0x090a}, "\x01\x02\x03\x04\x05\x06\x07\x08\x09\x0a"},
	{api.OpId{Client: 0xf1f2f3f4, Seq: 0xf5f6f7f8, Nest: 0xf9fa}, "\xf1\xf2\xf3\xf4\xf5\xf6\xf7\xf8\xf9\xfa"},
	{api.OpId{Client: 7, Seq: 3, Nest: api.MaxSteps}, "\x00\x00\x00\x07\x00\x00\x00\x03\x00\x08"},
	{api.OpId{Client: 7, Seq: 3, Nest: api.MaxSteps + 1}, "\x00\x00\x00\x07\x00\x00\x00\x03\x00\x09"},
	{api.OpId{Client: 7, Seq: 3, Nest: math.MaxUint16}, "\x00\x00\x00\x07\x00\x00\x00\x03\xff\xff"},
	{api.OpId{Client: math.MaxUint32, Seq: math.MaxUint32, Nest: math.MaxUint16}, strings.Repeat("\xff", idSize)},
}

// form: a call that is clean, and its bytes.
type form struct {
	o api.Op
	b string
}

// forms: calls with their bytes, written out.
func forms() []form {
	l := []form{
		{with(), head + "\x00"},
		{with(api.Value{}), head + "\x01\x00"},
		{with(whole(1)), head + "\x01\x01\x00\x00\x00\x00\x00\x00\x00\x01"},
		{with(whole(-1), text("ab")), head + "\x02\x01\xff\xff\xff\xff\xff\xff\xff\xff\x03\x00\x02ab"},
		{with(float(1), float(math.Copysign(0, -1))), head + "\x02\x02\x3f\xf0\x00\x00\x00\x00\x00\x00\x02\x80\x00\x00\x00\x00\x00\x00\x00"},
		{with(nan(0x7ff8000000000001), float(math.Inf(-1))), head + "\x02" + oneNaN + "\x02\xff\xf0\x00\x00\x00\x00\x00\x00"},
		{with(list(text("a"), list()), api.Value{}, list()), head + "\x03\x04\x02\x03\x00\x01a\x04\x00\x00\x04\x00"},
		{with(nested(api.MaxDepth, whole(0))), head + "\x01" + strings.Repeat("\x04\x01", 8) + "\x01" + nought},
		{with(text(strings.Repeat("t", api.MaxText))), head + "\x01\x03\x01\x00" + strings.Repeat("t", 256)},
		{with(make([]api.Value, api.MaxArgs)...), head + "\x10" + strings.Repeat("\x00", 16)},
		{with(make([]api.Value, api.MaxArgs-1)...), head + "\x0f" + strings.Repeat("\x00", 15)},
		{api.Op{Group: "stock", Method: "get"}, nought + "\x00\x00\x00\x05stock\x00\x03get\x00"},
		{api.Op{Group: "", Method: "only"}, nought + "\x00\x00\x00\x00\x00\x04only\x00"},
		{api.Op{Group: "only", Method: ""}, nought + "\x00\x00\x00\x04only\x00\x00\x00"},
		{api.Op{Group: "\xff\x00\u20ac", Method: "\n"}, nought + "\x00\x00\x00\x05\xff\x00\xe2\x82\xac\x00\x01\n\x00"},
		{api.Op{Group: name(api.MaxName), Method: "m"}, nought + "\x00\x00\x00\x20" + name(32) + "\x00\x01m\x00"},
		{api.Op{Group: "g", Method: name(api.MaxName)}, nought + "\x00\x00\x00\x01g\x00\x20" + name(32) + "\x00"},
	}
	for _, c := range ids {
		l = append(l, form{api.Op{Id: c.id, Group: "g", Method: "m", Args: []api.Value{text("t")}}, c.b + "\x00\x01g\x00\x01m\x01\x03\x00\x01t"})
	}
	return l
}

// replyForm: a reply that is clean, and its bytes.
type replyForm struct {
	r api.Reply
	b string
}

func replyForms() []replyForm {
	const zeroId = nought + "\x00\x00"
	l := []replyForm{
		{api.Reply{}, zeroId + "\x00\x00\x00"},
		{api.Reply{V: whole(1)}, zeroId + "\x00\x00\x01\x00\x00\x00\x00\x00\x00\x00\x01"},
		{api.Reply{Err: 1}, zeroId + "\x00\x01\x00"},
		{api.Reply{Err: api.ErrBadRef}, zeroId + "\x00\x1e\x00"},
		{api.Reply{Err: api.ErrFunds, V: text("no")}, zeroId + "\x00\x24\x03\x00\x02no"},
		{api.Reply{Err: 255}, zeroId + "\x00\xff\x00"},
		{api.Reply{Err: 256}, zeroId + "\x01\x00\x00"},
		{api.Reply{Err: 0x1234}, zeroId + "\x12\x34\x00"},
		{api.Reply{Err: 32768}, zeroId + "\x80\x00\x00"},
		{api.Reply{Err: 65535, V: list(float(2))}, zeroId + "\xff\xff\x04\x01\x02\x40\x00\x00\x00\x00\x00\x00\x00"},
		{api.Reply{V: nan(0x7ff8000000000001)}, zeroId + "\x00\x00" + oneNaN},
	}
	for _, c := range ids {
		l = append(l, replyForm{api.Reply{Id: c.id, Err: 2, V: text("t")}, c.b + "\x00\x02\x03\x00\x01t"})
	}
	return l
}

// exact holds two values against each other field by field, floats by bits.
func exact(a, b api.Value) bool {
	return a.Kind == b.Kind && a.I == b.I && math.Float64bits(a.F) == math.Float64bits(b.F) && a.S == b.S && slices.EqualFunc(a.L, b.L, exact)
}

func exactCall(a, b api.Op) bool {
	return a.Id == b.Id && a.Group == b.Group && a.Method == b.Method && slices.EqualFunc(a.Args, b.Args, exact)
}

func exactReply(a, b api.Reply) bool { return a.Id == b.Id && a.Err == b.Err && exact(a.V, b.V) }

// wantBytes holds the answer of a call that puts something against want.
func wantBytes(t *testing.T, got []byte, err api.Errno, want string) {
	t.Helper()
	if err != api.OK || string(got) != want {
		t.Errorf("%x, %v; wanted %x", got, err, want)
	}
}

func wantNoBytes(t *testing.T, got []byte, err, want api.Errno) {
	t.Helper()
	if err != want || got != nil {
		t.Errorf("%x, %v; wanted nothing, %v", got, err, want)
	}
}

func wantCall(t *testing.T, b string, want api.Op, took int) {
	t.Helper()
	if got, n, err := call.Read([]byte(b)); err != api.OK || n != took || !exactCall(got, want) {
		t.Errorf("Read(%x): %+v, %d, %v; wanted %+v, %d", b, got, n, err, want, took)
	}
}

func wantNoCall(t *testing.T, b string) {
	t.Helper()
	if got, n, err := call.Read([]byte(b)); err != api.ErrWire || n != 0 || !reflect.DeepEqual(got, api.Op{}) {
		t.Errorf("Read(%.200x): %+v, %d, %v; wanted ErrWire alone", b, got, n, err)
	}
}

func wantReply(t *testing.T, b string, want api.Reply, took int) {
	t.Helper()
	if got, n, err := call.ReadReply([]byte(b)); err != api.OK || n != took || !exactReply(got, want) {
		t.Errorf("ReadReply(%x): %+v, %d, %v; wanted %+v, %d", b, got, n, err, want, took)
	}
}

func wantNoReply(t *testing.T, b string) {
	t.Helper()
	if got, n, err := call.ReadReply([]byte(b)); err != api.ErrWire || n != 0 || !reflect.DeepEqual(got, api.Reply{}) {
		t.Errorf("ReadReply(%.200x): %+v, %d, %v; wanted ErrWire alone", b, got, n, err)
	}
}

// P6.1: Put puts b, the id, the names, how many args, and these.
func TestPut(t *testing.T) {
	for _, c := range forms() {
		for _, ahead := range []string{"", "\x00", "ahead of it"} {
			got, err := call.Put([]byte(ahead), c.o)
			wantBytes(t, got, err, ahead+c.b)
		}
	}
	got, err := call.Put(nil, api.Op{Args: []api.Value{}})
	wantBytes(t, got, err, nought+"\x00\x00\x00\x00\x00\x00\x00")
}

// P6.1: Put puts args as wire.Put does: with nothing but what their kinds have.
func TestPutCleans(t *testing.T) {
	got, err := call.Put(nil, with(crowded(api.Nil), crowded(api.Int), crowded(api.Float), crowded(api.Text), crowded(api.List)))
	wantBytes(t, got, err, head+"\x05\x00\x01\x00\x00\x00\x00\x00\x00\x00\x05\x02\x7f\xf0\x00\x00\x00\x00\x00\x00\x03\x00\x01y\x04\x02\x03\x00\x01z\x00")
	got, err = call.Put(nil, with(nan(0x7ff0000000000001), nan(0xfff8000000000000), list(nan(math.MaxUint64))))
	wantBytes(t, got, err, head+"\x03"+oneNaN+oneNaN+"\x04\x01"+oneNaN)
}

// refused: calls that can't be put, and the error of each.
func refused() map[string]struct {
	o    api.Op
	want api.Errno
} {
	noKind, longText := api.Value{Kind: 9}, text(strings.Repeat("x", api.MaxText+1))
	greater := greatest()
	greater.L = append(greater.L, api.Value{})
	type c = struct {
		o    api.Op
		want api.Errno
	}
	return map[string]c{
		"an arg too many":                         {with(make([]api.Value, api.MaxArgs+1)...), api.ErrSize},
		"256 args":                                {with(make([]api.Value, 256)...), api.ErrSize},
		"257 args":                                {with(make([]api.Value, 257)...), api.ErrSize},
		"very many args":                          {with(make([]api.Value, 1<<16)...), api.ErrSize},
		"too many args, ahead of one of no kind":  {with(slices.Repeat([]api.Value{noKind}, api.MaxArgs+1)...), api.ErrSize},
		"a longer group":                          {api.Op{Group: name(api.MaxName + 1)}, api.ErrSize},
		"a longer method":                         {api.Op{Method: name(api.MaxName + 1)}, api.ErrSize},
		"a group of 65535":                        {api.Op{Group: name(65535)}, api.ErrSize},
		"a method of 65536":                       {api.Op{Method: name(65536)}, api.ErrSize},
		"a longer group, ahead of a wrong arg":    {api.Op{Group: name(33), Args: []api.Value{noKind}}, api.ErrSize},
		"a longer method, ahead of a wrong arg":   {api.Op{Method: name(33), Args: []api.Value{noKind}}, api.ErrSize},
		"an arg of no kind":                       {with(noKind), api.ErrBadArgs},
		"an arg of a kind below all":              {with(api.Value{Kind: -1}), api.ErrBadArgs},
		"an arg of kind 256":                      {with(api.Value{Kind: 256}), api.ErrBadArgs},
		"the last arg of no kind":                 {with(append(make([]api.Value, api.MaxArgs-1), noKind)...), api.ErrBadArgs},
		"no kind in a list":                       {with(list(whole(1), noKind)), api.ErrBadArgs},
		"an arg's longer text":                    {with(longText), api.ErrSize},
		"an arg's longer list":                    {with(list(make([]api.Value, api.MaxItems+1)...)), api.ErrSize},
		"an arg that is too deep":                 {with(nested(api.MaxDepth+1, api.Value{})), api.ErrSize},
		"an arg that is too great in all":         {with(greater), api.ErrSize},
		"a longer text ahead of an arg of none":   {with(longText, noKind), api.ErrSize},
		"an arg of no kind ahead of a longer one": {with(noKind, longText), api.ErrBadArgs},
		"a list that holds itself":                {with(ring()), api.ErrSize},
	}
}

// P6.1: Put answers ErrSize of too many args, then wire's errors, and nothing
// beside them.
func TestPutRefuses(t *testing.T) {
	for what, c := range refused() {
		t.Run(what, func(t *testing.T) {
			for _, b := range [][]byte{nil, []byte("ahead")} {
				got, err := call.Put(b, c.o)
				wantNoBytes(t, got, err, c.want)
			}
		})
	}
}

// P6.1: a call of the greatest size, which is above MaxFrame, is put and read.
func TestGreatestCall(t *testing.T) {
	o := api.Op{Group: name(api.MaxName), Method: name(api.MaxName), Args: slices.Repeat([]api.Value{greatest()}, api.MaxArgs)}
	b, err := call.Put(nil, o)
	if want := idSize + 2*(2+api.MaxName) + 1 + api.MaxArgs*api.MaxSize; err != api.OK || len(b) != want {
		t.Fatalf("%d bytes, %v; wanted %d", len(b), err, want)
	}
	wantCall(t, string(b)+"behind it", o, len(b))
	for _, short := range []int{1, 100, api.MaxSize, api.MaxSize + 1} {
		wantNoCall(t, string(b[:len(b)-short]))
	}
}

// P6.1: Read reads what Put puts, whatever is behind it, and nothing less.
func TestRead(t *testing.T) {
	for _, c := range forms() {
		for _, behind := range []string{"", "\x00", "\xff\x09", strings.Repeat("\x04", 5000)} {
			wantCall(t, c.b+behind, c.o, len(c.b))
		}
		for i := range len(c.b) {
			wantNoCall(t, c.b[:i])
		}
	}
}

// P6.1: ErrWire of what no call has for its bytes, though all of it is there.
func TestReadRefuses(t *testing.T) {
	const zeroId = nought + "\x00\x00"
	for length := api.MaxName + 1; length <= math.MaxUint16; length += 1 + length/5 {
		long := string([]byte{byte(length >> 8), byte(length)}) + name(length)
		wantNoCall(t, zeroId+long+"\x00\x01m\x00")
		wantNoCall(t, zeroId+"\x00\x01g"+long+"\x00")
	}
	for count := api.MaxArgs + 1; count < 256; count++ {
		wantNoCall(t, head+string([]byte{byte(count)})+strings.Repeat("\x00", count))
		wantNoCall(t, head+string([]byte{byte(count)})+strings.Repeat("\x00", 70000))
	}
	for _, arg := range []string{
		"\x05" + nought, "\xff" + nought, "\x02\x7f\xf8\x00\x00\x00\x00\x00\x00", "\x02\xff\xf8\x00\x00\x00\x00\x00\x01", "\x02\x7f\xf0\x00\x00\x00\x00\x00\x01",
		"\x03\x01\x01" + name(257), "\x04\x41" + strings.Repeat("\x00", 65), strings.Repeat("\x04\x01", api.MaxDepth+1) + "\x00", "\x04\x01\x07",
		"\x04\x10" + strings.Repeat("\x03\x01\x00"+strings.Repeat("x", 256), 16),
	} {
		wantNoCall(t, head+"\x01"+arg)
		wantNoCall(t, head+"\x02\x00"+arg)
		wantNoCall(t, head+"\x02"+arg+"\x00")
		wantNoReply(t, zeroId+"\x00\x00"+arg)
	}
}

// P6.1: PutReply puts b, the id, two bytes of the error, and the value.
func TestPutReply(t *testing.T) {
	for _, c := range replyForms() {
		for _, ahead := range []string{"", "\x00", "ahead of it"} {
			got, err := call.PutReply([]byte(ahead), c.r)
			wantBytes(t, got, err, ahead+c.b)
		}
	}
	got, err := call.PutReply([]byte("b"), api.Reply{V: crowded(api.List)})
	wantBytes(t, got, err, "b"+nought+"\x00\x00\x00\x00\x04\x02\x03\x00\x01z\x00")
	got, err = call.PutReply(nil, api.Reply{V: nan(0xffffffffffffffff)})
	wantBytes(t, got, err, nought+"\x00\x00\x00\x00"+oneNaN)
}

// P6.1: PutReply answers ErrSize of an error that two bytes don't tell, then
// wire's errors, and nothing beside them.
func TestPutReplyRefuses(t *testing.T) {
	noKind, longText := api.Value{Kind: 9}, text(strings.Repeat("x", api.MaxText+1))
	for _, errno := range []api.Errno{-1, -2, -65535, -65536, 65536, 65537, 1 << 20, 1 << 31, 1<<32 + 30, 1 - 1<<32, math.MaxInt, math.MinInt} {
		for _, v := range []api.Value{{}, whole(1), noKind, longText} {
			got, err := call.PutReply([]byte("ahead"), api.Reply{Err: errno, V: v})
			wantNoBytes(t, got, err, api.ErrSize)
		}
	}
	for _, errno := range []api.Errno{0, 31, 65535} {
		for _, v := range []api.Value{longText, nested(api.MaxDepth+1, api.Value{}), ring()} {
			got, err := call.PutReply([]byte("ahead"), api.Reply{Err: errno, V: v})
			wantNoBytes(t, got, err, api.ErrSize)
		}
		for _, v := range []api.Value{noKind, list(longText, noKind), {Kind: -1}, {Kind: 256}} {
			got, err := call.PutReply([]byte("ahead"), api.Reply{Err: errno, V: v})
			wantNoBytes(t, got, err, api.ErrBadArgs)
		}
	}
}

// P6.1: ReadReply reads what PutReply puts, whatever is behind it, and nothing
// less.
func TestReadReply(t *testing.T) {
	for _, c := range replyForms() {
		for _, behind := range []string{"", "\x00", "\xff\x09", strings.Repeat("\x04", 5000)} {
			wantReply(t, c.b+behind, c.r, len(c.b))
		}
		for i := range len(c.b) {
			wantNoReply(t, c.b[:i])
		}
	}
	great := api.Reply{Id: api.OpId{Client: 1}, Err: 65535, V: greatest()}
	b, err := call.PutReply(nil, great)
	if err != api.OK || len(b) != idSize+2+api.MaxSize {
		t.Fatalf("the greatest reply: %d bytes, %v", len(b), err)
	}
	wantReply(t, string(b)+"behind", great, len(b))
}

// holdForm: what Read takes is clean, and put again it has just these bytes.
func holdForm(t *testing.T, b []byte) {
	t.Helper()
	o, n, err := call.Read(b)
	if err != api.OK {
		wantNoCall(t, string(b))
		return
	}
	again, put := call.Put(nil, o)
	if put != api.OK || n < idSize+2+2+1 || n > len(b) || !bytes.Equal(again, b[:n]) || !exactCall(o, call.Clean(o)) {
		t.Errorf("Read(%x): %+v, %d; put again: %x, %v", b, o, n, again, put)
	}
}

// holdReplyForm is holdForm of a reply.
func holdReplyForm(t *testing.T, b []byte) {
	t.Helper()
	r, n, err := call.ReadReply(b)
	if err != api.OK {
		wantNoReply(t, string(b))
		return
	}
	again, put := call.PutReply(nil, r)
	if put != api.OK || n < idSize+2+1 || n > len(b) || !bytes.Equal(again, b[:n]) || !exact(r.V, value.Clean(r.V)) {
		t.Errorf("ReadReply(%x): %+v, %d; put again: %x, %v", b, r, n, again, put)
	}
}

// edges: bytes at which something may turn: kinds, counts, lengths, bits of a
// NaN.
const edges = "\x00\x01\x02\x03\x04\x05\x06\x08\x09\x0f\x10\x11\x1f\x20\x21\x40\x41\x7f\x80\xf0\xf8\xff"

// P6.1: a call, and a reply, has one form; other bytes are ErrWire.
func TestOneForm(t *testing.T) {
	var all []string
	for _, c := range forms() {
		all = append(all, c.b)
	}
	for _, c := range replyForms() {
		all = append(all, c.b)
	}
	for _, s := range all {
		for i := range min(len(s), 90) {
			for _, x := range []byte(edges) {
				b := []byte(s + nought)
				b[i] = x
				holdForm(t, b)
				holdReplyForm(t, b)
			}
		}
	}
}

// Read and ReadReply look at their bytes alone, not at the room behind them.
func TestReadsEndWhereTheBytesEnd(t *testing.T) {
	room := []byte(head + "\x01\x03\x00\x02ab")
	for i := range room {
		if o, n, err := call.Read(room[:i]); err != api.ErrWire || n != 0 || o.Group != "" {
			t.Errorf("Read of %d bytes: %+v, %d, %v", i, o, n, err)
		}
	}
	room = []byte(nought + "\x00\x00\x00\x05\x03\x00\x02ab")
	for i := range room {
		if r, n, err := call.ReadReply(room[:i]); err != api.ErrWire || n != 0 || r.Err != 0 {
			t.Errorf("ReadReply of %d bytes: %+v, %d, %v", i, r, n, err)
		}
	}
}

// P6.1: whatever the bytes are, the reads end soon.
func TestReadsEnd(t *testing.T) {
	const much = 1 << 20
	done := make(chan struct{})
	go func() {
		defer close(done)
		for _, piece := range []string{"\x04\x01", "\x04\x40", "\x04", "\xff", "\x03\xff\xff", "\x04\x02\x04\x00"} {
			wantNoCall(t, head+"\x10"+strings.Repeat(piece, much/len(piece)))
			wantNoCall(t, strings.Repeat(piece, much/len(piece)))
			wantNoReply(t, nought+"\x00\x00\x00\x05"+strings.Repeat(piece, much/len(piece)))
		}
	}()
	select {
	case <-done:
	case <-time.After(time.Minute):
		t.Fatal("a read goes on for long")
	}
}

// P6.1: what is handed in stays, with the room behind it, and what is answered
// is new memory.
func TestPutsAreNewMemory(t *testing.T) {
	handed := "ahead of it, and a spare room that is long enough for all: " + name(200)
	for _, length := range []int{0, 5, len(handed)} {
		room := []byte(handed)
		o, r := with(text("abc"), whole(1)), api.Reply{Err: 5, V: text("abc")}
		asCall, errCall := call.Put(room[:length], o)
		asReply, errReply := call.PutReply(room[:length], r)
		if string(room) != handed || !exactCall(o, with(text("abc"), whole(1))) {
			t.Fatalf("what was handed in is changed: %q, %+v", room, o)
		}
		clear(room)
		wantBytes(t, asCall, errCall, handed[:length]+head+"\x02\x03\x00\x03abc\x01\x00\x00\x00\x00\x00\x00\x00\x01")
		wantBytes(t, asReply, errReply, handed[:length]+nought+"\x00\x00\x00\x05\x03\x00\x03abc")
		other, _ := call.Put(asCall[:len(asCall):len(asCall)], with())
		clear(other)
		wantBytes(t, asCall, errCall, handed[:length]+head+"\x02\x03\x00\x03abc\x01\x00\x00\x00\x00\x00\x00\x00\x01")
	}
}

// P6.1: what was read hangs on its bytes no more.
func TestReadsAreNewMemory(t *testing.T) {
	b := []byte(head + "\x02\x04\x01\x03\x00\x02ab\x03\x00\x01c")
	kept := string(b)
	o, n, err := call.Read(b)
	if string(b) != kept {
		t.Fatalf("Read changed its bytes: %x", b)
	}
	clear(b)
	if want := with(list(text("ab")), text("c")); err != api.OK || n != len(kept) || !exactCall(o, want) {
		t.Errorf("Read: %+v, %d, %v", o, n, err)
	}
	b = []byte(nought + "\x00\x00\x00\x05\x04\x01\x03\x00\x02ab")
	r, _, err := call.ReadReply(b)
	clear(b)
	if want := (api.Reply{Err: 5, V: list(text("ab"))}); err != api.OK || !exactReply(r, want) {
		t.Errorf("ReadReply: %+v, %v", r, err)
	}
}

// P6.3: Read(Put(o)) is Clean(o), and a reply comes back cleaned too.
func TestThereAndBack(t *testing.T) {
	l := []api.Op{
		with(crowded(api.Nil), crowded(api.Int), crowded(api.Float), crowded(api.Text), crowded(api.List)),
		with(nan(0x7ff0000000000001), nan(0xfff8000000000000), list(nan(math.MaxUint64), list(crowded(api.Text)))),
		with(slices.Repeat([]api.Value{greatest()}, api.MaxArgs)...),
		{Args: []api.Value{}},
	}
	for _, c := range forms() {
		l = append(l, c.o)
	}
	for _, o := range l {
		b, err := call.Put([]byte("ahead"), o)
		if err != api.OK {
			t.Fatalf("Put(%+v): %v", o, err)
		}
		wantCall(t, string(b[5:])+"behind", call.Clean(o), len(b)-5)
		for _, v := range o.Args {
			r := api.Reply{Id: o.Id, Err: 7, V: v}
			b, err := call.PutReply([]byte("ahead"), r)
			if err != api.OK {
				t.Fatalf("PutReply(%+v): %v", r, err)
			}
			wantReply(t, string(b[5:])+"behind", api.Reply{Id: o.Id, Err: 7, V: value.Clean(v)}, len(b)-5)
		}
	}
}

// P6.1: calls stand one behind the other, each beginning where the one ahead
// ended, and so do the pieces that wire puts for one.
func TestInARow(t *testing.T) {
	var row []byte
	for _, c := range forms() {
		row, _ = call.Put(row, c.o)
	}
	for _, c := range forms() {
		o, n, err := call.Read(row)
		if err != api.OK || !exactCall(o, c.o) {
			t.Fatalf("%+v, %v; wanted %+v", o, err, c.o)
		}
		pieces := wire.PutU(wire.PutU(wire.PutU(nil, uint64(o.Id.Client), 4), uint64(o.Id.Seq), 4), uint64(o.Id.Nest), 2)
		pieces, _ = wire.PutText(pieces, o.Group, api.MaxName)
		pieces, _ = wire.PutText(pieces, o.Method, api.MaxName)
		pieces = append(pieces, byte(len(o.Args)))
		for _, v := range o.Args {
			pieces, _ = wire.Put(pieces, v)
		}
		if !bytes.Equal(pieces, row[:n]) {
			t.Errorf("%+v: %x; in pieces %x", o, row[:n], pieces)
		}
		row = row[n:]
	}
	if len(row) != 0 {
		t.Errorf("left over: %x", row)
	}
}

func FuzzRead(f *testing.F) {
	for _, c := range forms() {
		f.Add([]byte(c.b))
	}
	f.Fuzz(holdForm)
}

func FuzzReadReply(f *testing.F) {
	for _, c := range replyForms() {
		f.Add([]byte(c.b))
	}
	f.Fuzz(holdReplyForm)
}
