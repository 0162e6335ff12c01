package group_test

import (
	"fmt"
	"math"
	"slices"
	"strings"
	"testing"

	"choir/api"
	"choir/group"
	"choir/value"
)

func whole(i int64) api.Value { return api.Value{Kind: api.Int, I: i} }

func float(f float64) api.Value { return api.Value{Kind: api.Float, F: f} }

func text(s string) api.Value { return api.Value{Kind: api.Text, S: s} }

func long(n int) api.Value { return text(strings.Repeat("x", n)) }

func list(l ...api.Value) api.Value { return api.Value{Kind: api.List, L: l} }

func times(n int, v api.Value) api.Value { return list(slices.Repeat([]api.Value{v}, n)...) }

func stray(kind int) api.Value { return api.Value{Kind: kind, I: 1, F: 1, S: "a"} }

// texts gives arguments that are all Texts.
func texts(words ...string) []api.Value {
	var l []api.Value
	for _, s := range words {
		l = append(l, text(s))
	}
	return l
}

// nested gives v in n lists.
func nested(n int, v api.Value) api.Value {
	for range n {
		v = list(v)
	}
	return v
}

// filled gives a list of size bytes on the wire, in texts.
func filled(size int) api.Value {
	v := list()
	for left := size - 2; left > 0; left -= min(left, 203) {
		v.L = append(v.L, long(min(left, 203)-3))
	}
	return v
}

// ring gives a list that holds itself.
func ring() api.Value {
	v := list(text("a"), api.Value{})
	v.L[1] = v
	return v
}

// crowd fills the fields that v's kind hasn't.
func crowd(v api.Value) api.Value {
	c := api.Value{Kind: v.Kind, I: 7, F: math.Inf(-1), S: "crowd", L: []api.Value{text("x"), stray(9)}}
	switch v.Kind {
	case api.Int:
		c.I = v.I
	case api.Float:
		c.F = v.F
	case api.Text:
		c.S = v.S
	case api.List:
		c.L = slices.Clone(v.L)
	}
	return c
}

// spoil overwrites a list to its last corner, and the room behind it.
func spoil(l []api.Value) {
	l = l[:cap(l)]
	for i := range l {
		spoil(l[i].L)
		l[i] = stray(77)
	}
}

// exact holds two values against each other field by field, floats by bits.
func exact(a, b api.Value) bool {
	return a.Kind == b.Kind && a.I == b.I && math.Float64bits(a.F) == math.Float64bits(b.F) && a.S == b.S && slices.EqualFunc(a.L, b.L, exact)
}

func made(name, class string, style int, version uint32) api.Group {
	return api.Group{Name: name, Class: class, Style: style, Version: version}
}

// styleNames: by their styles.
var styleNames = map[int]string{api.Active: "active", api.Warm: "warm", api.Cold: "cold"}

// listed gives what list is to answer of these groups.
func listed(groups []api.Group) api.Value {
	v := list()
	for _, g := range groups {
		v.L = append(v.L, list(text(g.Name), text(g.Class), text(styleNames[g.Style]), whole(int64(g.Version))))
	}
	return v
}

// key: names whose order is that of their numbers.
func key(i int) string { return fmt.Sprintf("k%02d", i) }

// numbered gives a directory of n groups, k00, k01 ..
func numbered(t *testing.T, n int) *group.Dir {
	t.Helper()
	d := group.New()
	for i := range n {
		wantNil(t, d, "create", key(i), "queue", "active")
	}
	return d
}

// wantNil asks for a call that is done, and answers nil.
func wantNil(t *testing.T, d *group.Dir, method string, words ...string) {
	t.Helper()
	if v, err := d.Do(method, texts(words...)); err != api.OK || !exact(v, api.Value{}) {
		t.Errorf("%s%.100q: %s, %v; wanted nil", method, words, value.Text(v), err)
	}
}

// wantError asks for an error, nothing beside it, and that nothing changes.
func wantError(t *testing.T, d *group.Dir, want api.Errno, method string, l ...api.Value) {
	t.Helper()
	before := d.All()
	v, err := d.Do(method, l)
	if err != want || !exact(v, api.Value{}) {
		t.Errorf("%.100q of %s: %s, %v; wanted %v", method, words(l), value.Text(v), err, want)
	}
	if !slices.Equal(d.All(), before) {
		t.Errorf("%.100q of %s: %v, and before it %v", method, words(l), d.All(), before)
	}
}

func words(l []api.Value) string { return fmt.Sprintf("%.200s", value.Text(list(l...))) }

// wantGroups asks All, list and Get for just these, in this order.
func wantGroups(t *testing.T, d *group.Dir, want ...api.Group) {
	t.Helper()
	if got := d.All(); !slices.Equal(got, want) {
		t.Errorf("All: %v; wanted %v", got, want)
	}
	if v, err := d.Do("list", nil); err != api.OK || !exact(v, listed(want)) {
		t.Errorf("list: %s, %v; wanted %s", value.Text(v), err, value.Text(listed(want)))
	}
	for _, g := range want {
		if got, there := d.Get(g.Name); !there || got != g {
			t.Errorf("Get(%q): %v, %v; wanted %v", g.Name, got, there, g)
		}
	}
}

// wantNone asks Get for nothing.
func wantNone(t *testing.T, d *group.Dir, names ...string) {
	t.Helper()
	for _, name := range names {
		if g, there := d.Get(name); there || g != (api.Group{}) {
			t.Errorf("Get(%.100q): %v, %v; wanted none", name, g, there)
		}
	}
}
