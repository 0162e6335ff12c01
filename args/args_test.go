package args_test

import (
	"math"
	"reflect"
	"slices"
	"strings"
	"sync"
	"testing"

	"choir/api"
	"choir/args"
	"choir/value"
)

// taken: a method as the chapter's table tells it. Of takes each letter is an
// argument: n a number, i an Int, t a name, v a value, s a step.
type taken struct {
	class, method, takes string
	writes               bool
}

// methods: the whole table, in order of classes and methods.
var methods = []taken{
	{"counter", "add", "n", true},
	{"counter", "count", "", false},
	{"counter", "reset", "", true},
	{"counter", "total", "", false},
	{"ledger", "balance", "t", false},
	{"ledger", "close", "t", true},
	{"ledger", "deposit", "tn", true},
	{"ledger", "names", "", false},
	{"ledger", "open", "t", true},
	{"ledger", "total", "", false},
	{"ledger", "transfer", "ttn", true},
	{"orch", "fail", "", true},
	{"orch", "run", "s", true},
	{"orch", "runs", "", false},
	{"queue", "len", "", false},
	{"queue", "nth", "i", false},
	{"queue", "peek", "", false},
	{"queue", "pop", "", true},
	{"queue", "push", "v", true},
	{"register", "cas", "vv", true},
	{"register", "get", "", false},
	{"register", "set", "v", true},
	{"table", "del", "t", true},
	{"table", "get", "t", false},
	{"table", "keys", "", false},
	{"table", "put", "tv", true},
	{"table", "size", "", false},
}

var classes = []string{"counter", "ledger", "orch", "queue", "register", "table"}

// noClasses: what looks like a class, and is none.
var noClasses = []string{
	"", " ", "Counter", "COUNTER", "counters", "counte", "counter ", " counter", "counter\x00", "\x00", "\xff", "orch.run", "counter.add",
	"groups", "group", "object", "nil", "add", "get", "map", "réseau", strings.Repeat("counter", 5000), "ledgertable", "Orch", "orchestra",
}

// noMethods: what no class has for a method.
var noMethods = []string{
	"", " ", "Add", "ADD", "adds", "ad", "add ", " add", "add\x00", "\x00", "\xff", "counter", "counter.add", "create", "destroy", "style", "list",
	"Run", "run1", "getget", "put*", "add*", strings.Repeat("add", 5000),
}

func whole(i int64) api.Value { return api.Value{Kind: api.Int, I: i} }

func float(f float64) api.Value { return api.Value{Kind: api.Float, F: f} }

func text(s string) api.Value { return api.Value{Kind: api.Text, S: s} }

func long(n int) api.Value { return text(strings.Repeat("n", n)) }

func list(l ...api.Value) api.Value { return api.Value{Kind: api.List, L: l} }

func stray(kind int) api.Value { return api.Value{Kind: kind, I: 1, F: 1, S: "a"} }

// nested gives v in n lists.
func nested(n int, v api.Value) api.Value {
	for range n {
		v = list(v)
	}
	return v
}

// ring gives a list that holds itself.
func ring() api.Value {
	v := list(text("a"), text("b"), api.Value{})
	v.L[2] = v
	return v
}

// aStep gives a step of right names.
func aStep(behind ...api.Value) api.Value {
	return list(append([]api.Value{text("a"), text("get")}, behind...)...)
}

// greatStep gives a step of size bytes on the wire, in texts.
func greatStep(size int) api.Value {
	s := aStep()
	for left := size - value.Size(s); left > 0; left -= min(left, 203) {
		s.L = append(s.L, long(min(left, 203)-3))
	}
	return s
}

// crowd fills the fields that v's kind hasn't.
func crowd(v api.Value) api.Value {
	c := api.Value{Kind: v.Kind, I: 7, F: math.NaN(), S: "crowd", L: []api.Value{text("x"), text("y")}}
	switch v.Kind {
	case api.Int:
		c.I = v.I
	case api.Float:
		c.F = v.F
	case api.Text:
		c.S = v.S
	case api.List:
		c.L = nil
		for _, item := range v.L {
			c.L = append(c.L, crowd(item))
		}
	}
	return c
}

// sample: a value that value.Check lets through, and the letters that take it.
type sample struct {
	what string
	v    api.Value
	fits string
}

// samples: values at the edges of what is taken.
func samples() []sample {
	l := []sample{
		{"nil", api.Value{}, "v"},
		{"Int 0", whole(0), "niv"},
		{"Int 5", whole(5), "niv"},
		{"Int -1", whole(-1), "niv"},
		{"the least Int", whole(math.MinInt64), "niv"},
		{"the greatest Int", whole(math.MaxInt64), "niv"},
		{"Float 0.0", float(0), "nv"},
		{"Float -0.0", float(math.Copysign(0, -1)), "nv"},
		{"Float 1.0", float(1), "nv"},
		{"Float 0.5", float(0.5), "nv"},
		{"the least Float above 0", float(math.SmallestNonzeroFloat64), "nv"},
		{"the greatest Float", float(math.MaxFloat64), "nv"},
		{"an infinity", float(math.Inf(1)), "nv"},
		{"the other infinity", float(math.Inf(-1)), "nv"},
		{"NaN", float(math.NaN()), "nv"},
		{"a NaN of other bits", float(math.Float64frombits(0xfff0000000000001)), "nv"},
		{"no text", text(""), "v"},
		{"a text of 1", text("a"), "tv"},
		{"a digit", text("1"), "tv"},
		{"a blank", text(" "), "tv"},
		{"a zero byte", text("\x00"), "tv"},
		{"bytes that are no UTF-8", text("\xff\xfe"), "tv"},
		{"a text of MaxName - 1", long(api.MaxName - 1), "tv"},
		{"a text of MaxName", long(api.MaxName), "tv"},
		{"a text of MaxName + 1", long(api.MaxName + 1), "v"},
		{"MaxName bytes in runes", text(strings.Repeat("é", api.MaxName/2)), "tv"},
		{"MaxName + 1 bytes in fewer runes", text(strings.Repeat("é", api.MaxName/2) + "n"), "v"},
		{"MaxName runes", text(strings.Repeat("é", api.MaxName)), "v"},
		{"a text of MaxText", long(api.MaxText), "v"},
		{"an empty list", list(), "v"},
		{"an empty list that isn't nil", api.Value{Kind: api.List, L: []api.Value{}}, "v"},
		{"a list of a number", list(whole(1)), "v"},
		{"a list of a name", list(text("a")), "v"},
		{"a list of two numbers", list(whole(1), whole(2)), "v"},
		{"a list of nils", list(make([]api.Value, api.MaxItems)...), "v"},
		{"lists of MaxDepth", nested(api.MaxDepth, whole(1)), "v"},
	}
	return append(l, steps()...)
}

// steps: lists that are steps, and ones that nearly are.
func steps() []sample {
	const right, wrong = "sv", "v"
	return []sample{
		{"a step", aStep(), right},
		{"a step of an arg", aStep(whole(1)), right},
		{"a step of a value of each kind", aStep(api.Value{}, whole(1), float(math.NaN()), text(""), list()), right},
		{"a step of a step", aStep(aStep(aStep())), right},
		{"a step of orch's run", list(text("o"), text("run"), aStep()), right},
		{"a step of no class's method", list(text("no such group"), text("no such method"), long(200)), right},
		{"a step of the longest names", list(long(api.MaxName), long(api.MaxName)), right},
		{"a step of the shortest names", list(text("\x00"), text("\xff")), right},
		{"a step of MaxArgs args", aStep(make([]api.Value, api.MaxArgs)...), right},
		{"a step of MaxItems", aStep(make([]api.Value, api.MaxItems-2)...), right},
		{"a step of MaxDepth", aStep(nested(api.MaxDepth-1, whole(1))), right},
		{"a step of MaxSize", greatStep(api.MaxSize), right},
		{"a step without a method", list(text("a")), wrong},
		{"a step without a group", list(text(""), text("get")), wrong},
		{"a step of an empty method", list(text("a"), text("")), wrong},
		{"a step of a longer group", list(long(api.MaxName+1), text("get")), wrong},
		{"a step of a longer method", list(text("a"), long(api.MaxName+1)), wrong},
		{"a step of a number for a group", list(whole(1), text("get")), wrong},
		{"a step of a number for a method", list(text("a"), whole(1)), wrong},
		{"a step of nil for a group", list(api.Value{}, text("get"), text("get")), wrong},
		{"a step of nil for a method", list(text("a"), api.Value{}, text("get")), wrong},
		{"a step of a list for a group", list(list(text("a")), text("get")), wrong},
		{"a step of its args ahead", list(text("a"), list(whole(1)), text("get")), wrong},
		{"a step in a list", list(aStep()), wrong},
		{"two steps in a list", list(aStep(), aStep()), wrong},
		{"a step in words", text("a.get"), "tv"},
	}
}

// faulty: values that value.Check has an error for, and which.
func faulty() []struct {
	what string
	v    api.Value
	want api.Errno
} {
	return []struct {
		what string
		v    api.Value
		want api.Errno
	}{
		{"of no kind", stray(5), api.ErrBadArgs},
		{"of no kind, below", stray(-1), api.ErrBadArgs},
		{"of no kind, far off", stray(math.MaxInt), api.ErrBadArgs},
		{"no kind in a list", list(stray(9)), api.ErrBadArgs},
		{"no kind in a step", aStep(stray(9)), api.ErrBadArgs},
		{"a text of MaxText + 1", long(api.MaxText + 1), api.ErrSize},
		{"a very long text", long(1 << 20), api.ErrSize},
		{"a step of a group of MaxText + 1", list(long(api.MaxText+1), text("get")), api.ErrSize},
		{"a step of a method of MaxText + 1", list(text("a"), long(api.MaxText+1)), api.ErrSize},
		{"a list of MaxItems + 1", list(make([]api.Value, api.MaxItems+1)...), api.ErrSize},
		{"a step of MaxItems + 1", aStep(make([]api.Value, api.MaxItems-1)...), api.ErrSize},
		{"lists of MaxDepth + 1", nested(api.MaxDepth+1, api.Value{}), api.ErrSize},
		{"a step of MaxDepth + 1", aStep(nested(api.MaxDepth, api.Value{})), api.ErrSize},
		{"a step of MaxSize + 1", greatStep(api.MaxSize + 1), api.ErrSize},
		{"a list that holds itself", ring(), api.ErrSize},
	}
}

// right gives arguments that a method takes, of as many steps as are asked.
func right(takes string) []api.Value {
	var l []api.Value
	for _, letter := range takes {
		l = append(l, map[rune]api.Value{'n': float(0.5), 'i': whole(1), 't': text("a"), 'v': {}, 's': aStep(whole(1))}[letter])
	}
	return l
}

// put gives l with v at i.
func put(l []api.Value, i int, v api.Value) []api.Value {
	l = slices.Clone(l)
	l[i] = v
	return l
}

func wantCheck(t *testing.T, class, method string, l []api.Value, want api.Errno) {
	t.Helper()
	if got := args.Check(class, method, l); got != want {
		t.Errorf("Check(%.40q, %.40q, %d args): %v; wanted %v", class, method, len(l), got, want)
	}
}

// P7.1: Classes, in order.
func TestClasses(t *testing.T) {
	if got := args.Classes(); !slices.Equal(got, classes) {
		t.Errorf("%q; wanted %q", got, classes)
	}
}

// P7.1: Methods of each class, in order of their names.
func TestMethods(t *testing.T) {
	want := map[string][]string{}
	for _, m := range methods {
		want[m.class] = append(want[m.class], m.method)
	}
	for _, class := range classes {
		for range 20 {
			if got := args.Methods(class); !slices.Equal(got, want[class]) || !slices.IsSorted(got) {
				t.Errorf("Methods(%q): %q; wanted %q", class, got, want[class])
			}
		}
	}
	for _, class := range noClasses {
		if got := args.Methods(class); len(got) != 0 {
			t.Errorf("Methods(%.40q): %q; wanted none", class, got)
		}
	}
}

// exact holds two values against each other field by field, floats by bits.
func exact(a, b api.Value) bool {
	return a.Kind == b.Kind && a.I == b.I && math.Float64bits(a.F) == math.Float64bits(b.F) && a.S == b.S && slices.EqualFunc(a.L, b.L, exact)
}

var starts = map[string]api.Value{
	"counter":  list(whole(0), float(0)),
	"ledger":   list(),
	"orch":     whole(0),
	"queue":    list(),
	"register": {},
	"table":    list(),
}

// P7.1: Start gives the state that an object begins with; of no class nil and
// false.
func TestStart(t *testing.T) {
	for _, class := range classes {
		if got, ok := args.Start(class); !ok || !exact(got, starts[class]) {
			t.Errorf("Start(%q): %+v, %v; wanted %+v", class, got, ok, starts[class])
		}
	}
	for _, class := range noClasses {
		if got, ok := args.Start(class); ok || !reflect.DeepEqual(got, api.Value{}) {
			t.Errorf("Start(%.40q): %+v, %v; wanted none", class, got, ok)
		}
	}
}

// P7.2: Writes tells of each method; of no class, of no method, and of another
// class's method it is false.
func TestWrites(t *testing.T) {
	writes := map[[2]string]bool{}
	for _, m := range methods {
		writes[[2]string{m.class, m.method}] = m.writes
	}
	for _, class := range slices.Concat(classes, noClasses) {
		for _, method := range slices.Concat(methodNames(), noMethods) {
			if got, want := args.Writes(class, method), writes[[2]string{class, method}]; got != want {
				t.Errorf("Writes(%.40q, %.40q): %v; wanted %v", class, method, got, want)
			}
		}
	}
}

// methodNames gives the names that methods of any class have.
func methodNames() []string {
	var l []string
	for _, m := range methods {
		l = append(l, m.method)
	}
	slices.Sort(l)
	return slices.Compact(l)
}

// P7.1, P7.2: each method takes at each place what its kind is there, whatever
// is beside it, and nothing else.
func TestCheckKinds(t *testing.T) {
	for _, m := range methods {
		wantCheck(t, m.class, m.method, right(m.takes), api.OK)
		for i, letter := range m.takes {
			for _, s := range samples() {
				want := api.ErrBadArgs
				if strings.ContainsRune(s.fits, letter) {
					want = api.OK
				}
				for _, v := range []api.Value{s.v, crowd(s.v)} {
					if got := args.Check(m.class, m.method, put(right(m.takes), i, v)); got != want {
						t.Errorf("%s.%s, argument %d is %s: %v; wanted %v", m.class, m.method, i, s.what, got, want)
					}
				}
			}
		}
	}
}

// P7.1, P7.2: a method takes just as many arguments as the table tells; run
// 1 to MaxSteps.
func TestCheckCounts(t *testing.T) {
	for _, m := range methods {
		for n := range 2*api.MaxArgs + 1 {
			l := right(m.takes)
			for len(l) < n {
				l = append(l, slices.Concat(right(m.takes), right("v"))[0])
			}
			want := api.ErrBadArgs
			if n == len(m.takes) || m.method == "run" && n >= 1 && n <= api.MaxSteps {
				want = api.OK
			}
			wantCheck(t, m.class, m.method, l[:n], want)
		}
	}
	wantCheck(t, "register", "get", []api.Value{}, api.OK)
	wantCheck(t, "register", "set", []api.Value{}, api.ErrBadArgs)
	wantCheck(t, "queue", "push", []api.Value{}, api.ErrBadArgs)
	wantCheck(t, "queue", "push", nil, api.ErrBadArgs)
}

// P7.2: each of run's steps must be one, up to the last.
func TestCheckRun(t *testing.T) {
	for n := 1; n <= api.MaxSteps; n++ {
		l := right(strings.Repeat("s", n))
		wantCheck(t, "orch", "run", l, api.OK)
		for i := range l {
			for _, s := range steps() {
				want := api.ErrBadArgs
				if strings.Contains(s.fits, "s") {
					want = api.OK
				}
				wantCheck(t, "orch", "run", put(l, i, s.v), want)
			}
			for _, f := range faulty() {
				wantCheck(t, "orch", "run", put(l, i, f.v), f.want)
			}
		}
	}
}

// P7.2: of no class and of no method of the class is ErrBadArgs, whatever the
// arguments.
func TestCheckNoSuch(t *testing.T) {
	known := map[[2]string]bool{}
	for _, m := range methods {
		known[[2]string{m.class, m.method}] = true
	}
	for _, class := range slices.Concat(classes, noClasses) {
		for _, method := range slices.Concat(methodNames(), noMethods) {
			if known[[2]string{class, method}] {
				continue
			}
			for _, takes := range []string{"", "v", "n", "i", "t", "s", "tt", "tn", "tv", "vv", "ttn", "ss"} {
				wantCheck(t, class, method, right(takes), api.ErrBadArgs)
			}
		}
	}
}

// P7.2: value.Check's error of an argument is answered at each place.
func TestCheckFaulty(t *testing.T) {
	for _, m := range methods {
		for i := range m.takes {
			for _, f := range faulty() {
				if got := args.Check(m.class, m.method, put(right(m.takes), i, f.v)); got != f.want {
					t.Errorf("%s.%s, argument %d is %s: %v; wanted %v", m.class, m.method, i, f.what, got, f.want)
				}
			}
		}
	}
}

// P7.2: of several errors the first one that the chapter names is answered: no
// call at all, then the first argument that value.Check refuses, then one that
// isn't what is taken.
func TestCheckOrder(t *testing.T) {
	noKind, tooLong, noName := stray(9), long(api.MaxText+1), long(api.MaxName+1)
	for _, c := range []struct {
		class, method string
		l             []api.Value
		want          api.Errno
	}{
		{"none", "set", []api.Value{tooLong}, api.ErrBadArgs},
		{"register", "none", []api.Value{tooLong}, api.ErrBadArgs},
		{"queue", "set", []api.Value{tooLong}, api.ErrBadArgs},
		{"register", "get", []api.Value{tooLong}, api.ErrBadArgs},
		{"register", "set", []api.Value{tooLong, tooLong}, api.ErrBadArgs},
		{"register", "cas", []api.Value{tooLong}, api.ErrBadArgs},
		{"orch", "run", slices.Repeat([]api.Value{tooLong}, api.MaxSteps+1), api.ErrBadArgs},
		{"orch", "run", slices.Repeat([]api.Value{tooLong}, api.MaxSteps), api.ErrSize},
		{"register", "cas", []api.Value{noKind, tooLong}, api.ErrBadArgs},
		{"register", "cas", []api.Value{tooLong, noKind}, api.ErrSize},
		{"ledger", "transfer", []api.Value{noName, text("b"), tooLong}, api.ErrSize},
		{"ledger", "transfer", []api.Value{noName, tooLong, noKind}, api.ErrSize},
		{"ledger", "transfer", []api.Value{noName, noKind, tooLong}, api.ErrBadArgs},
		{"ledger", "transfer", []api.Value{tooLong, noName, noKind}, api.ErrSize},
		{"ledger", "transfer", []api.Value{noName, noName, noName}, api.ErrBadArgs},
		{"ledger", "transfer", []api.Value{text("a"), text("a"), whole(1)}, api.OK},
		{"ledger", "deposit", []api.Value{whole(1), text("a")}, api.ErrBadArgs},
		{"ledger", "deposit", []api.Value{whole(1), tooLong}, api.ErrSize},
		{"table", "put", []api.Value{whole(1), nested(api.MaxDepth+1, whole(1))}, api.ErrSize},
		{"table", "put", []api.Value{tooLong, noKind}, api.ErrSize},
		{"orch", "run", []api.Value{whole(1), aStep(), tooLong}, api.ErrSize},
		{"orch", "run", []api.Value{aStep(), list(whole(1)), aStep(tooLong)}, api.ErrSize},
		{"orch", "run", []api.Value{list(whole(1), tooLong)}, api.ErrSize},
		{"orch", "run", []api.Value{aStep(noKind), aStep(tooLong)}, api.ErrBadArgs},
	} {
		wantCheck(t, c.class, c.method, c.l, c.want)
	}
}

// P7.3: what isn't a call of its class is refused ahead of all: not a single
// argument is looked at, however many there are.
func TestRefusedAhead(t *testing.T) {
	many := slices.Repeat([]api.Value{ring()}, 1<<16)
	for _, f := range faulty() {
		many = append(many, f.v)
	}
	for _, m := range methods {
		for _, l := range [][]api.Value{many, many[len(many)-30:], many[1<<16:]} {
			wantCheck(t, m.class, m.method, l, api.ErrBadArgs)
			wantCheck(t, m.class, "no "+m.method, l, api.ErrBadArgs)
			wantCheck(t, "no "+m.class, m.method, l, api.ErrBadArgs)
		}
	}
}

// P7.1: a method of one class is none of another, unless that has one of this
// name; then it takes what its own class says.
func TestOtherClasses(t *testing.T) {
	takes := map[[2]string]string{}
	for _, m := range methods {
		takes[[2]string{m.class, m.method}] = m.takes
	}
	for _, class := range classes {
		for _, m := range methods {
			want := api.ErrBadArgs
			if own, ok := takes[[2]string{class, m.method}]; ok && own == m.takes {
				want = api.OK
			}
			wantCheck(t, class, m.method, right(m.takes), want)
		}
	}
}

// P7.1: each answer is new memory: what is done to one changes no other.
func TestAnswersAreNew(t *testing.T) {
	for range 2 {
		l := args.Classes()
		clear(l[:cap(l)])
		for _, class := range classes {
			l := args.Methods(class)
			clear(l[:cap(l)])
			state, _ := args.Start(class)
			clear(state.L[:cap(state.L)])
		}
	}
	TestClasses(t)
	TestMethods(t)
	TestStart(t)
	TestCheckCounts(t)
}

// P7.2: Check changes none of the arguments, nor what is behind them.
func TestCheckLeavesArguments(t *testing.T) {
	for _, m := range methods {
		for _, s := range samples() {
			given := func() []api.Value {
				room := []api.Value{crowd(s.v), text("behind"), crowd(aStep(whole(1))), stray(9)}
				return append(slices.Repeat([]api.Value{crowd(s.v)}, len(m.takes)), room...)
			}
			l := given()
			args.Check(m.class, m.method, l[:len(m.takes)])
			if !slices.EqualFunc(l, given(), exact) {
				t.Errorf("%s.%s: %s was changed", m.class, m.method, s.what)
			}
		}
	}
}

// P7.1, P7.2: what is answered hangs on the arguments alone, whoever else asks.
func TestManyAtOnce(t *testing.T) {
	var all sync.WaitGroup
	for range 8 {
		all.Go(func() {
			for _, m := range methods {
				wantCheck(t, m.class, m.method, right(m.takes), api.OK)
				if args.Writes(m.class, m.method) != m.writes || !slices.Contains(args.Methods(m.class), m.method) {
					t.Errorf("%s.%s", m.class, m.method)
				}
			}
		})
	}
	all.Wait()
}

// FuzzNames holds all calls, of any names, against the table.
func FuzzNames(f *testing.F) {
	for _, m := range methods {
		f.Add(m.class, m.method)
	}
	f.Fuzz(func(t *testing.T, class, method string) {
		i := slices.IndexFunc(methods, func(m taken) bool { return m.class == class && m.method == method })
		_, started := args.Start(class)
		if started != slices.Contains(classes, class) || started != (len(args.Methods(class)) > 0) {
			t.Errorf("%q: %v, %q", class, started, args.Methods(class))
		}
		if i < 0 {
			wantCheck(t, class, method, nil, api.ErrBadArgs)
			wantCheck(t, class, method, right("v"), api.ErrBadArgs)
		} else {
			wantCheck(t, class, method, right(methods[i].takes), api.OK)
		}
		if args.Writes(class, method) != (i >= 0 && methods[i].writes) {
			t.Errorf("Writes(%q, %q)", class, method)
		}
	})
}
