package value

import (
	"cmp"
	"math"

	"choir/api"
)

// pair: two lists by the places where they stand, and how many items of each.
type pair struct {
	a, b  *api.Value
	count int
}

// comparison: a walk through two values up to where they differ. It keeps the
// lists that it found alike; those that differ have ended it.
type comparison struct {
	floats func(x, y float64) int
	visits int
	alike  map[pair]struct{}
}

// values holds a against b, which are in as many lists as level tells.
func (c *comparison) values(a, b api.Value, level int) int {
	c.visits++
	if k := cmp.Compare(kind(a), kind(b)); k != 0 {
		return k
	}
	switch a.Kind {
	case api.Int:
		return cmp.Compare(a.I, b.I)
	case api.Float:
		return c.floats(a.F, b.F)
	case api.Text:
		return cmp.Compare(a.S, b.S)
	case api.List:
		return c.lists(a.L, b.L, level+1)
	}
	return 0
}

// lists holds items against each other as far as both lists go, then lengths.
func (c *comparison) lists(a, b []api.Value, level int) int {
	n := min(len(a), len(b))
	if n > 0 && level <= deepest {
		if i := c.items(pair{&a[0], &b[0], n}, a[:n], b[:n], level); i != 0 {
			return i
		}
	}
	return cmp.Compare(len(a), len(b))
}

func (c *comparison) items(places pair, a, b []api.Value, level int) int {
	if _, ok := c.alike[places]; ok {
		return 0
	}
	for i := range a {
		if d := c.values(a[i], b[i], level); d != 0 {
			return d
		}
	}
	c.keep(places)
	return 0
}

func (c *comparison) keep(places pair) {
	if c.visits <= many {
		return
	}
	if c.alike == nil {
		c.alike = map[pair]struct{}{}
	}
	c.alike[places] = struct{}{}
}

// kind gives v's kind; what is of no kind counts as Nil.
func kind(v api.Value) int {
	switch v.Kind {
	case api.Int, api.Float, api.Text, api.List:
		return v.Kind
	}
	return api.Nil
}

// orderFloats is cmp's order (NaN first) with the noughts told apart.
func orderFloats(x, y float64) int {
	if x == 0 && y == 0 {
		return cmp.Compare(math.Copysign(1, x), math.Copysign(1, y))
	}
	return cmp.Compare(x, y)
}
