package group_test

import (
	"math"
	"slices"
	"strings"
	"testing"

	"choir/api"
	"choir/args"
	"choir/group"
	"choir/value"
)

// inOrder: names in order of their bytes, the shortest and the longest ones
// among them, and ones that nearly are the directory's own.
func inOrder() []string {
	return []string{
		"\x00", " ", "Groups", "a", "a\x00", "ab", "groups\x00", "groups ", "queue", strings.Repeat("x", api.MaxName-1), strings.Repeat("x", api.MaxName),
		"z", "\x80", "ä", "\xff", strings.Repeat("\xff", api.MaxName),
	}
}

// P17.1, P17.2: a new directory has no groups, not itself either.
func TestNew(t *testing.T) {
	d := group.New()
	wantGroups(t, d)
	wantNone(t, d, "", "a", "groups", "queue", strings.Repeat("x", 5000))
	wantGroups(t, d)
}

// P17.1: create makes a group of each class and each style, Version 1.
func TestCreate(t *testing.T) {
	for _, class := range args.Classes() {
		for style, name := range styleNames {
			d := group.New()
			wantNil(t, d, "create", "a", class, name)
			wantGroups(t, d, made("a", class, style, 1))
			wantNone(t, d, "", "b", "A", "a ", "aa", class, name, "groups")
		}
	}
}

// P17.1, P17.2: any name of 1 to MaxName bytes may be a group's, but groups;
// list and All are in order of the names' bytes, in whatever order these came.
func TestNamesInOrder(t *testing.T) {
	names := inOrder()
	if len(names) != api.MaxGroups {
		t.Fatalf("%d names", len(names))
	}
	var want []api.Group
	for i, name := range names {
		want = append(want, made(name, args.Classes()[i%6], i%3, 1))
	}
	for step := 1; step < len(names); step += 2 { // an odd one leads to each of the 16
		d := group.New()
		for i := range want {
			g := want[i*step%len(want)]
			wantNil(t, d, "create", g.Name, g.Class, styleNames[g.Style])
		}
		wantGroups(t, d, want...)
	}
}

// P17.1: no group is named groups: it isn't there, and can't be.
func TestOwnName(t *testing.T) {
	d := numbered(t, 2)
	for _, style := range styleNames {
		wantError(t, d, api.ErrBadArgs, "create", texts("groups", "queue", style)...)
		wantError(t, d, api.ErrBadRef, "style", texts("groups", style)...)
	}
	wantError(t, d, api.ErrBadRef, "destroy", text("groups"))
	wantNone(t, d, "groups")
	wantError(t, numbered(t, api.MaxGroups), api.ErrBadArgs, "create", texts("groups", "queue", "warm")...)
}

// P17.1: create of a group that is there is ErrExists, also of another class
// and another style, and where there is no room.
func TestExists(t *testing.T) {
	for _, n := range []int{1, 2, api.MaxGroups - 1, api.MaxGroups} {
		d := numbered(t, n)
		for i := range n {
			wantError(t, d, api.ErrExists, "create", texts(key(i), "queue", "active")...)
			wantError(t, d, api.ErrExists, "create", texts(key(i), "counter", "cold")...)
		}
	}
}

// P17.1: there is room for MaxGroups; one more is ErrFull, until one is gone.
func TestFull(t *testing.T) {
	d := numbered(t, api.MaxGroups)
	for i := range api.MaxGroups {
		more := key(api.MaxGroups + i)
		wantError(t, d, api.ErrFull, "create", texts(more, "queue", "active")...)
		wantNone(t, d, more)
		wantNil(t, d, "destroy", key(i))
		wantNil(t, d, "create", more, "table", "warm")
		wantError(t, d, api.ErrFull, "create", texts(key(i), "queue", "active")...)
	}
	var want []api.Group
	for i := range api.MaxGroups {
		want = append(want, made(key(api.MaxGroups+i), "table", api.Warm, 1))
	}
	wantGroups(t, d, want...)
}

// P17.1: where there is no room, groups are destroyed and styled as ever.
func TestFullIsForCreateAlone(t *testing.T) {
	d := numbered(t, api.MaxGroups)
	wantNil(t, d, "style", key(3), "cold")
	wantNil(t, d, "destroy", key(4))
	wantError(t, d, api.ErrBadRef, "destroy", text(key(4)))
	if g, there := d.Get(key(3)); !there || g != made(key(3), "queue", api.Cold, 2) || len(d.All()) != api.MaxGroups-1 {
		t.Errorf("Get: %v, %v, of %d", g, there, len(d.All()))
	}
}

// P17.1: a group that was destroyed is gone, and the others stay.
func TestDestroy(t *testing.T) {
	for gone := range 5 {
		d := numbered(t, 5)
		want := slices.Delete(d.All(), gone, gone+1)
		wantNil(t, d, "destroy", key(gone))
		wantGroups(t, d, want...)
		wantNone(t, d, key(gone))
		wantError(t, d, api.ErrBadRef, "destroy", text(key(gone)))
		wantError(t, d, api.ErrBadRef, "style", texts(key(gone), "warm")...)
	}
	d := group.New()
	for _, name := range inOrder() {
		wantError(t, d, api.ErrBadRef, "destroy", text(name))
		wantNil(t, d, "create", name, "queue", "active")
		wantNil(t, d, "destroy", name)
		wantGroups(t, d)
	}
}

// P17.1: style changes a group's style, also to the same one, and its Version
// is one more each time; all else stays.
func TestStyle(t *testing.T) {
	d := numbered(t, 3)
	version := uint32(1)
	for range 50 {
		for _, style := range []int{api.Warm, api.Cold, api.Cold, api.Active, api.Active, api.Warm, api.Active} {
			wantNil(t, d, "style", key(1), styleNames[style])
			version++
			wantGroups(t, d, made(key(0), "queue", api.Active, 1), made(key(1), "queue", style, version), made(key(2), "queue", api.Active, 1))
		}
	}
}

// P17.1: style of a group that isn't there is ErrBadRef, and makes none.
func TestStyleOfNone(t *testing.T) {
	for _, d := range []*group.Dir{group.New(), numbered(t, 1), numbered(t, api.MaxGroups)} {
		for _, style := range styleNames {
			for _, name := range inOrder() {
				wantError(t, d, api.ErrBadRef, "style", texts(name, style)...)
				wantNone(t, d, name)
			}
		}
	}
}

// P17.1: what list answers is a value, even where all is as long as it may be.
func TestGreatestList(t *testing.T) {
	d := group.New()
	var want []api.Group
	for i := range api.MaxGroups {
		name := key(i) + strings.Repeat("x", api.MaxName-3)
		wantNil(t, d, "create", name, "register", "active")
		want = append(want, made(name, "register", api.Active, 1))
	}
	wantGroups(t, d, want...)
	v, _ := d.Do("list", nil)
	if err := value.Check(v); err != api.OK {
		t.Errorf("list: value.Check: %v", err)
	}
}

// Rule 2 of what holds everywhere: a nil list and an empty one are the same.
func TestEmptyArguments(t *testing.T) {
	d := numbered(t, 2)
	v, err := d.Do("list", []api.Value{})
	if err != api.OK || !exact(v, listed(d.All())) {
		t.Errorf("list: %s, %v", value.Text(v), err)
	}
	for _, method := range []string{"create", "destroy", "style", "none", ""} {
		wantError(t, d, api.ErrBadArgs, method)
		wantError(t, d, api.ErrBadArgs, method, []api.Value{}...)
	}
}

// fault: an argument that isn't such as is taken, and its error.
type fault struct {
	what string
	v    api.Value
	err  api.Errno
}

// faults: what is no Text that could be anything's name.
func faults() []fault {
	return []fault{
		{"nil", api.Value{}, api.ErrBadArgs},
		{"nil, crowded", crowd(api.Value{}), api.ErrBadArgs},
		{"an Int", whole(1), api.ErrBadArgs},
		{"an Int 0", whole(0), api.ErrBadArgs},
		{"a Float", float(1), api.ErrBadArgs},
		{"NaN", float(math.NaN()), api.ErrBadArgs},
		{"an empty text", text(""), api.ErrBadArgs},
		{"an empty text, crowded", crowd(text("")), api.ErrBadArgs},
		{"an empty list", list(), api.ErrBadArgs},
		{"names in a list", list(text("k00"), text("queue"), text("warm")), api.ErrBadArgs},
		{"a text of MaxName + 1", long(api.MaxName + 1), api.ErrBadArgs},
		{"MaxName + 1 bytes in fewer runes", text(strings.Repeat("é", api.MaxName/2) + "n"), api.ErrBadArgs},
		{"a text of MaxText", long(api.MaxText), api.ErrBadArgs},
		{"a text of MaxText + 1", long(api.MaxText + 1), api.ErrSize},
		{"of no kind", stray(5), api.ErrBadArgs},
		{"of no kind, below", stray(-1), api.ErrBadArgs},
		{"no kind in a list", list(stray(9)), api.ErrBadArgs},
		{"a list of MaxItems", times(api.MaxItems, api.Value{}), api.ErrBadArgs},
		{"a list of MaxItems + 1", times(api.MaxItems+1, api.Value{}), api.ErrSize},
		{"lists of MaxDepth", nested(api.MaxDepth, whole(1)), api.ErrBadArgs},
		{"lists of MaxDepth + 1", nested(api.MaxDepth+1, whole(1)), api.ErrSize},
		{"a value of MaxSize", filled(api.MaxSize), api.ErrBadArgs},
		{"a value of MaxSize + 1", filled(api.MaxSize + 1), api.ErrSize},
		{"a list that holds itself", ring(), api.ErrSize},
	}
}

// P17.1: what has a right word in its S, but is of another kind, is no Text.
func TestWordsOfOtherKinds(t *testing.T) {
	d := numbered(t, 1)
	for _, kind := range []int{api.Nil, api.Int, api.Float, api.List, -1, 5} {
		for method, calls := range rightCalls() {
			for _, l := range calls {
				for i := range l {
					wrong := slices.Clone(l)
					wrong[i].Kind = kind
					wantError(t, d, api.ErrBadArgs, method, wrong...)
				}
			}
		}
	}
}

// rightCalls: calls that would be done, of k00 and on a directory with k00, or
// that come to an error of groups.
func rightCalls() map[string][][]api.Value {
	return map[string][][]api.Value{
		"create":  {texts("new", "queue", "warm"), texts("k00", "queue", "warm")},
		"destroy": {texts("k00"), texts("new")},
		"style":   {texts("k00", "warm"), texts("new", "warm")},
		"list":    {nil},
	}
}

// P17.1: an argument that isn't such as is taken is ErrBadArgs, or value.Check's
// error, at each place, ahead of ErrExists, ErrFull and ErrBadRef.
func TestWrongArguments(t *testing.T) {
	for _, n := range []int{0, 1, 3, api.MaxGroups} {
		d := numbered(t, n)
		for _, f := range faults() {
			for method, calls := range rightCalls() {
				for _, l := range calls {
					for i := range l {
						wrong := slices.Clone(l)
						wrong[i] = f.v
						wantError(t, d, f.err, method, wrong...)
					}
				}
			}
		}
	}
}

// P17.1: what is a Text, and a name even, but no class's and no style's.
func TestNoSuchClassOrStyle(t *testing.T) {
	neither := []string{
		" ", "\x00", "\xff", "a", "k00", "groups", "group", "list", "create", "nil", "0", "1", "2", "hot",
		"Queue", "queues", "queu", "queue ", " queue", "queue\x00", "object", "map", strings.Repeat("queue", 6),
		"Active", "ACTIVE", "actives", "activ", "active ", " active", "active\x00", "passive", "Warm", "war", "warmer", "cool", "COLD", "cold\n",
	}
	for _, n := range []int{0, 1, api.MaxGroups} {
		d := numbered(t, n)
		for _, name := range []string{"k00", "new"} {
			for _, s := range slices.Concat(neither, []string{"active", "warm", "cold"}) {
				wantError(t, d, api.ErrBadArgs, "create", texts(name, s, "warm")...)
			}
			for _, s := range slices.Concat(neither, args.Classes()) {
				wantError(t, d, api.ErrBadArgs, "create", texts(name, "queue", s)...)
				wantError(t, d, api.ErrBadArgs, "style", texts(name, s)...)
			}
			wantError(t, d, api.ErrBadArgs, "create", texts("queue", name, "warm")...)
			wantError(t, d, api.ErrBadArgs, "create", texts(name, "warm", "queue")...)
			wantError(t, d, api.ErrBadArgs, "style", texts("warm", name)...)
		}
	}
}

// P17.1: another number of arguments is ErrBadArgs.
func TestWrongCounts(t *testing.T) {
	for _, n := range []int{0, 1, api.MaxGroups} {
		d := numbered(t, n)
		for method, calls := range rightCalls() {
			for _, l := range calls {
				for count := range 2 * api.MaxArgs {
					if count != len(l) {
						wantError(t, d, api.ErrBadArgs, method, slices.Concat(l, slices.Repeat(texts("warm"), 2*api.MaxArgs))[:count]...)
					}
				}
			}
		}
	}
}

// P17.1: no such method is ErrBadArgs, whatever its arguments; so are the
// methods of the classes, and ones of other letters.
func TestNoSuchMethod(t *testing.T) {
	names := []string{"", " ", "Create", "CREATE", "create ", " create", "creates", "creat", "create\x00", "\x00", "\xff", "lists", "List", "styles", "get", "all", "clone", "groups", "groups.create", "active", strings.Repeat("list", 5000)}
	for _, class := range args.Classes() {
		names = append(names, class)
		names = append(names, args.Methods(class)...)
	}
	d := numbered(t, 2)
	for _, method := range names {
		for _, calls := range rightCalls() {
			for _, l := range calls {
				wantError(t, d, api.ErrBadArgs, method, l...)
			}
		}
	}
}

// P17.1: value.Check's error of an argument comes first: ahead of the method, of
// how many arguments there are, and of what they are; of several the first one.
func TestValueCheckFirst(t *testing.T) {
	tooLong, noKind := long(api.MaxText+1), stray(9)
	for _, n := range []int{0, 1, api.MaxGroups} {
		d := numbered(t, n)
		for _, method := range []string{"create", "destroy", "style", "list", "none", ""} {
			for count := range api.MaxArgs {
				l := slices.Repeat([]api.Value{whole(1)}, count)
				wantError(t, d, api.ErrSize, method, slices.Concat(l, []api.Value{tooLong, noKind})...)
				wantError(t, d, api.ErrSize, method, slices.Concat([]api.Value{tooLong, noKind}, l)...)
				wantError(t, d, api.ErrBadArgs, method, slices.Concat(l, []api.Value{noKind, tooLong})...)
			}
		}
	}
}

// P17.1: only what an argument's kind has counts.
func TestCrowdedArguments(t *testing.T) {
	d := group.New()
	for _, c := range []struct {
		method string
		words  []string
		want   []api.Group
	}{
		{"create", []string{"a", "queue", "warm"}, []api.Group{made("a", "queue", api.Warm, 1)}},
		{"style", []string{"a", "cold"}, []api.Group{made("a", "queue", api.Cold, 2)}},
		{"destroy", []string{"a"}, nil},
	} {
		var l []api.Value
		for _, v := range texts(c.words...) {
			l = append(l, crowd(v))
		}
		if v, err := d.Do(c.method, l); err != api.OK || !exact(v, api.Value{}) {
			t.Errorf("%s: %s, %v", c.method, value.Text(v), err)
		}
		wantGroups(t, d, c.want...)
	}
}

// Rule 3 of what holds everywhere: what is handed in is neither changed nor
// kept, nor is the room behind it.
func TestArgumentsAreLeftAlone(t *testing.T) {
	d := group.New()
	for _, words := range [][]string{{"create", "a", "queue", "warm"}, {"style", "a", "cold"}, {"destroy", "b"}, {"list"}, {"create", "a", "queue", "hot"}} {
		room := append(texts(words[1:]...), stray(5), text("behind"))
		given, before := room[:len(words)-1], slices.Clone(room)
		d.Do(words[0], given)
		if !slices.EqualFunc(room, before, exact) {
			t.Errorf("%s changed what it was handed", words[0])
		}
		spoil(given)
	}
	wantGroups(t, d, made("a", "queue", api.Cold, 2))
}

// Rule 3 of what holds everywhere: what is answered is new memory.
func TestNewMemory(t *testing.T) {
	d := numbered(t, 3)
	want := d.All()
	for range 3 {
		all := d.All()
		clear(all[:cap(all)])
		v, _ := d.Do("list", nil)
		for i, g := range v.L {
			spoil(g.L)
			for _, other := range v.L[i+1:] {
				if other.L[0].Kind != api.Text {
					t.Error("two lists of one answer share memory")
				}
			}
		}
		spoil(v.L)
		wantGroups(t, d, want...)
	}
}

// P17.2: a Clone is alike, and goes its own way, as the one that it is of does.
func TestClone(t *testing.T) {
	for _, n := range []int{0, 1, 5, api.MaxGroups} {
		d := numbered(t, n)
		if n > 0 {
			wantNil(t, d, "style", key(0), "cold")
		}
		before := d.All()
		c := d.Clone()
		wantGroups(t, c, before...)
		cleared(t, c)
		wantGroups(t, d, before...)
		wantNil(t, c, "create", "own", "table", "warm")
		wantGroups(t, d, before...)
		wantNone(t, d, "own")

		c = d.Clone()
		again := c.Clone()
		cleared(t, d)
		wantNil(t, d, "create", key(0), "ledger", "warm")
		wantGroups(t, c, before...)
		wantGroups(t, again, before...)
		wantGroups(t, d, made(key(0), "ledger", api.Warm, 1))
		for _, g := range before {
			wantNil(t, c, "style", g.Name, "warm")
		}
		wantGroups(t, again, before...)
	}
}

// cleared destroys all groups.
func cleared(t *testing.T, d *group.Dir) {
	t.Helper()
	for _, g := range d.All() {
		wantNil(t, d, "destroy", g.Name)
	}
	wantGroups(t, d)
}

// P17.2: a Clone has as much room as there is.
func TestCloneOfAFullOne(t *testing.T) {
	d := numbered(t, api.MaxGroups-1)
	c := d.Clone()
	wantNil(t, d, "create", "d", "queue", "active")
	wantNil(t, c, "create", "c", "queue", "active")
	for _, full := range []*group.Dir{d, c, d.Clone(), c.Clone()} {
		wantError(t, full, api.ErrFull, "create", texts("e", "queue", "active")...)
	}
	wantNone(t, c, "d")
	wantNone(t, d, "c")
}

// P17.2: Get and All change nothing, and nothing is there by asking.
func TestAskingChangesNothing(t *testing.T) {
	d := numbered(t, api.MaxGroups-1)
	want := d.All()
	for range 3 {
		for i := range 2 * api.MaxGroups {
			d.Get(key(i))
		}
		d.Clone()
		wantGroups(t, d, want...)
		wantNone(t, d, key(api.MaxGroups-1), key(api.MaxGroups))
	}
	wantNil(t, d, "create", "a", "queue", "active")
}

// P17.3: a group that was destroyed and made again is another one: it has its
// own class and style, and nothing of what was changed of the first one.
func TestMadeAgain(t *testing.T) {
	for _, class := range args.Classes() {
		for style, name := range styleNames {
			for changes := range 4 {
				d := numbered(t, 2)
				for range changes {
					wantNil(t, d, "style", key(0), "warm")
				}
				wantNil(t, d, "destroy", key(0))
				wantNone(t, d, key(0))
				wantNil(t, d, "create", key(0), class, name)
				wantGroups(t, d, made(key(0), class, style, 1), made(key(1), "queue", api.Active, 1))
				wantNil(t, d, "style", key(0), "cold")
				wantGroups(t, d, made(key(0), class, api.Cold, 2), made(key(1), "queue", api.Active, 1))
			}
		}
	}
}

// Rule 8 of what holds everywhere: one directory tells nothing of another one.
func TestDirectoriesApart(t *testing.T) {
	a, b := numbered(t, api.MaxGroups), group.New()
	wantGroups(t, b)
	wantNil(t, b, "create", key(0), "table", "cold")
	wantNil(t, a, "destroy", key(0))
	wantGroups(t, b, made(key(0), "table", api.Cold, 1))
}
