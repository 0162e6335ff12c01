package value_test

import (
	"math"
	"testing"
	"time"

	"choir/api"
	"choir/value"
)

// ends fails the test at once if do goes on for long.
func ends(t *testing.T, what string, do func()) {
	t.Helper()
	done := make(chan struct{})
	go func() {
		defer close(done)
		do()
	}()
	select {
	case <-done:
	case <-time.After(20 * time.Second):
		t.Fatalf("%s doesn't end", what)
	}
}

// ring gives a list that has itself n times, behind the values given.
func ring(n int, ahead ...api.Value) api.Value {
	l := append([]api.Value(nil), ahead...)
	l = append(l, make([]api.Value, n)...)
	for i := len(ahead); i < len(l); i++ {
		l[i] = list(l...)
	}
	for i := len(ahead); i < len(l); i++ {
		l[i].L = l
	}
	return list(l...)
}

// shared gives lists in one another, as deep as told, each of width times the
// same one: few lists in memory, countless to walk.
func shared(depth, width int, v api.Value) api.Value {
	for range depth {
		v = times(width, v)
	}
	return v
}

// All calls end, whatever holds itself, or is deeper than anything is promised.
func TestCallsEnd(t *testing.T) {
	for what, make := range map[string]func() api.Value{
		"a ring":                     func() api.Value { return ring(1) },
		"a ring of two":              func() api.Value { return ring(2) },
		"a ring of many":             func() api.Value { return ring(64) },
		"a ring behind values":       func() api.Value { return ring(3, whole(1), stray(9), text("a")) },
		"a ring behind shared lists": func() api.Value { return ring(2, shared(60, 2, whole(1))) },
		"shared lists in a ring":     func() api.Value { return ring(2, shared(200, 3, whole(1))) },
		"65 deep":                    func() api.Value { return nested(65, whole(1)) },
		"4096 deep":                  func() api.Value { return nested(4096, whole(1)) },
		"a million deep":             func() api.Value { return nested(1000000, whole(1)) },
		"wide and deep":              func() api.Value { return shared(1000, 64, text("a")) },
		"64 shared lists":            func() api.Value { return shared(64, 2, whole(1)) },
	} {
		a, b := make(), make()
		ends(t, "Check of "+what, func() { value.Check(a) })
		ends(t, "Size of "+what, func() { value.Size(a) })
		ends(t, "Clean of "+what, func() { value.Clean(a) })
		ends(t, "Clone of "+what, func() { value.Clone(a) })
		ends(t, "Text of "+what, func() { value.Text(a) })
		ends(t, "Equal of "+what, func() { value.Equal(a, b) })
		ends(t, "Equal of one, "+what, func() { value.Equal(a, a) })
		ends(t, "Order of "+what, func() { value.Order(a, b) })
		ends(t, "Order of "+what+" with its item", func() { value.Order(a, a.L[len(a.L)-1]) })
	}
}

// Lists that stand in many places are measured as often as they stand there.
func TestSharedListsAreMeasured(t *testing.T) {
	for _, c := range []struct {
		what string
		v    api.Value
		size int
		err  api.Errno
	}{
		{"two deep", shared(2, 30, whole(1)), 2 + 30*(2+30*9), api.ErrSize},
		{"small", shared(3, 3, api.Value{}), 2 + 3*(2+3*(2+3)), api.OK},
		{"8 deep, 64 wide", shared(8, 64, api.Value{}), 1<<48 + 2*(1<<48-1)/63, api.ErrSize},
		{"8 deep, 64 wide, of no kind", shared(8, 64, stray(9)), 1<<48 + 2*(1<<48-1)/63, api.ErrBadArgs},
		{"more than an int tells", shared(64, 2, api.Value{}), math.MaxInt, api.ErrSize},
		{"more than an int tells, of no kind", shared(64, 2, stray(-1)), math.MaxInt, api.ErrBadArgs},
		{"of no kind behind much", list(shared(60, 3, whole(1)), stray(7)), math.MaxInt, api.ErrBadArgs},
	} {
		ends(t, c.what, func() {
			if size, err := value.Size(c.v), value.Check(c.v); size != c.size || err != c.err {
				t.Errorf("%s: Size %d, Check %v; wanted %d, %v", c.what, size, err, c.size, c.err)
			}
		})
	}
}

// Lists that stand in many places are held against one another all the same.
func TestSharedListsAreCompared(t *testing.T) {
	for _, depth := range []int{1, 5, 8, 20, 63} {
		a, b := shared(depth, 3, float(0)), shared(depth, 3, float(negativeZero()))
		more := list(append(append([]api.Value(nil), a.L...), whole(1))...)
		last := list(a.L[0], a.L[1], list(whole(math.MaxInt64)))
		ends(t, "a comparison", func() {
			if !value.Equal(a, shared(depth, 3, float(0))) || value.Order(a, shared(depth, 3, float(0))) != 0 {
				t.Errorf("%d deep: not like another one of its like", depth)
			}
			if !value.Equal(a, b) || value.Order(a, b) != 1 || value.Order(b, a) != -1 {
				t.Errorf("%d deep: noughts", depth)
			}
			if value.Equal(a, more) || value.Order(a, more) != -1 {
				t.Errorf("%d deep: a longer one", depth)
			}
			if value.Equal(a, last) || value.Order(a, last) == 0 || value.Order(a, last) != -value.Order(last, a) {
				t.Errorf("%d deep: another last item", depth)
			}
		})
	}
}

// pieces gives lists of 1, 2 .. of the same items, behind so many others that
// the walk through them is a long one.
func pieces(items ...api.Value) api.Value {
	l := []api.Value{times(2000, api.Value{})}
	for i := range items {
		l = append(l, list(items[:i+1]...))
	}
	return list(l...)
}

// Lists that begin at one place are others where their lengths are.
func TestPiecesOfOneList(t *testing.T) {
	a := pieces(whole(1), text("a"), list(), stray(9))
	if size, want := value.Size(a), 2+(2+2000)+(2+9)+(2+13)+(2+15)+(2+16); size != want {
		t.Errorf("Size %d, wanted %d", size, want)
	}
	if err := value.Check(a); err != api.ErrBadArgs {
		t.Errorf("Check %v, wanted ErrBadArgs", err)
	}
	b := pieces(whole(1), text("a"), list(), whole(5))
	if value.Equal(a, b) || value.Order(a, b) != -1 || value.Order(b, a) != 1 {
		t.Error("a last item that differs isn't seen")
	}
	if c := value.Clean(a); !value.Equal(a, c) || value.Order(a, c) != 0 {
		t.Error("not like another one of its like")
	}
}

// A list that stands twice on one side only is held against both of the others.
func TestOneListAgainstTwo(t *testing.T) {
	ahead, one := times(2000, api.Value{}), list(whole(1), whole(2))
	twice := list(ahead, one, one)
	other := list(ahead, list(whole(1), whole(2)), list(whole(1), whole(3)))
	if value.Equal(twice, other) || value.Equal(other, twice) || value.Order(twice, other) != -1 || value.Order(other, twice) != 1 {
		t.Error("a second one that differs isn't seen")
	}
}
