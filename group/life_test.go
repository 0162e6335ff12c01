package group_test

import (
	"math/rand"
	"slices"
	"strings"
	"testing"

	"choir/api"
	"choir/group"
	"choir/value"
)

// history: the calls that were done, without those that came to an error. It
// tells what P17.1 says of a directory without keeping one.
type history [][]string

// group gives the group of this name, and whether it is there: by what was done
// of it since it was made last.
func (h history) group(name string) (api.Group, bool) {
	var g api.Group
	for _, call := range slices.Backward(h) {
		if call[1] != name {
			continue
		}
		switch call[0] {
		case "destroy":
			return api.Group{}, false
		case "style":
			if g.Version == 0 {
				g.Style = styleNumber(call[2])
			}
			g.Version++
		case "create":
			if g.Version == 0 {
				g.Style = styleNumber(call[3])
			}
			return made(name, call[2], g.Style, g.Version+1), true
		}
	}
	return api.Group{}, false
}

// all gives the groups that are there, in order.
func (h history) all() []api.Group {
	var names []string
	for _, call := range h {
		names = append(names, call[1])
	}
	slices.Sort(names)
	var all []api.Group
	for _, name := range slices.Compact(names) {
		if g, there := h.group(name); there {
			all = append(all, g)
		}
	}
	return all
}

func styleNumber(name string) int {
	for style, s := range styleNames {
		if s == name {
			return style
		}
	}
	return -1
}

// err gives what a call comes to, all of whose words but a style's are right.
func (h history) err(call []string) api.Errno {
	_, there := h.group(call[1])
	full := len(h.all()) >= api.MaxGroups
	switch {
	case call[0] != "destroy" && styleNumber(call[len(call)-1]) < 0:
		return api.ErrBadArgs
	case call[0] != "create" && !there:
		return api.ErrBadRef
	case call[0] == "create" && there:
		return api.ErrExists
	case call[0] == "create" && full:
		return api.ErrFull
	}
	return api.OK
}

// do has the directory do a call, and asks for what P17.1 says of it.
func (h history) do(t *testing.T, d *group.Dir, call ...string) history {
	t.Helper()
	want := h.err(call)
	v, err := d.Do(call[0], texts(call[1:]...))
	if err != want || !exact(v, api.Value{}) {
		t.Fatalf("%q: %s, %v; wanted nil, %v, behind %q", call, value.Text(v), err, want, h)
	}
	if err == api.OK {
		h = append(h[:len(h):len(h)], call)
	}
	return h
}

// hold holds the directory against what was done.
func (h history) hold(t *testing.T, d *group.Dir, names []string) {
	t.Helper()
	wantGroups(t, d, h.all()...)
	for _, name := range names {
		want, wanted := h.group(name)
		if g, there := d.Get(name); there != wanted || g != want {
			t.Errorf("Get(%q): %v, %v; wanted %v, %v", name, g, there, want, wanted)
		}
	}
	if t.Failed() {
		t.Fatalf("behind %q", h)
	}
}

// callOf gives a call of the name, by a number.
func callOf(name string, n int) []string {
	classes := []string{"queue", "table", "counter", "ledger", "orch", "register"}
	styles := []string{"active", "warm", "cold", "hot"}
	style := styles[n/3%4]
	switch n % 3 {
	case 0:
		return []string{"create", name, classes[n/12%6], style}
	case 1:
		return []string{"style", name, style}
	}
	return []string{"destroy", name}
}

// P17.1, P17.3: all lives of two groups that five calls lead to.
func TestAllShortLives(t *testing.T) {
	calls := [][]string{
		{"create", "a", "queue", "active"}, {"create", "a", "table", "warm"}, {"style", "a", "cold"}, {"style", "a", "warm"}, {"destroy", "a"},
		{"create", "b", "queue", "cold"}, {"style", "b", "active"}, {"destroy", "b"},
	}
	const long = 5
	count := 1
	for range long {
		count *= len(calls)
	}
	for n := range count {
		var h history
		d := group.New()
		for range long {
			h = h.do(t, d, calls[n%len(calls)]...)
			n /= len(calls)
		}
		h.hold(t, d, []string{"a", "b"})
	}
}

// P17.1, P17.2, P17.3: long lives of few groups and of more than there is room
// for, with clones that go their own ways, held at each step.
func TestAnyLife(t *testing.T) {
	r := rand.New(rand.NewSource(17))
	for _, many := range []int{1, 3, api.MaxGroups, api.MaxGroups + 1, 2 * api.MaxGroups} {
		names := []string{"groups "}
		for i := range many - 1 {
			names = append(names, strings.Repeat(string(rune('a'+i%4)), 1+i/4))
		}
		for range 5 {
			lives := []history{nil}
			dirs := []*group.Dir{group.New()}
			for range 200 {
				i := r.Intn(len(dirs))
				n := r.Intn(72)
				if r.Intn(2) == 0 { // so that it fills up
					n -= n % 3
				}
				lives[i] = lives[i].do(t, dirs[i], callOf(names[r.Intn(many)], n)...)
				if len(dirs) < 4 && r.Intn(40) == 0 {
					lives, dirs = append(lives, lives[i]), append(dirs, dirs[i].Clone())
				}
				for k := range dirs {
					lives[k].hold(t, dirs[k], names)
				}
			}
		}
	}
}

// FuzzLife holds any life against P17.1: of each two bytes the one tells the
// group, the other one the call.
func FuzzLife(f *testing.F) {
	f.Add([]byte{0, 0, 0, 4, 0, 2, 0, 15, 1, 0, 0, 0})
	f.Add([]byte("\x00\x00\x01\x00\x02\x00\x03\x00\x04\x00\x05\x00\x06\x00\x07\x00\x08\x00\x09\x00\x0a\x00\x0b\x00\x0c\x00\x0d\x00\x0e\x00\x0f\x00\x10\x00\x00\x02\x10\x00"))
	f.Fuzz(func(t *testing.T, b []byte) {
		var h history
		d := group.New()
		for i := 1; i < min(len(b), 100); i += 2 {
			h = h.do(t, d, callOf(key(int(b[i-1])%20), int(b[i]))...)
			h.hold(t, d, nil)
		}
	})
}
