package value

import (
	"math"

	"choir/api"
)

// measure: what Check and Size ask of a value.
type measure struct {
	stray bool // a part is of no kind
	long  bool // a text or a list is too long
	depth int  // lists in one another
	size  int  // bytes on the wire; as many as an int tells, at most
}

// row: a list by the place where it stands.
type row struct {
	first *api.Value
	count int
}

// survey: a walk that measures, and the lists that it has measured.
type survey struct {
	visits int
	known  map[row]measure
}

func measured(v api.Value) measure {
	var s survey
	return s.value(v, 0)
}

// value measures v, which is in as many lists as level tells.
func (s *survey) value(v api.Value, level int) measure {
	s.visits++
	switch v.Kind {
	case api.Nil:
		return measure{size: 1}
	case api.Int, api.Float:
		return measure{size: 1 + 8}
	case api.Text:
		return measure{size: 1 + 2 + len(v.S), long: len(v.S) > api.MaxText}
	case api.List:
		return s.list(v.L, level+1)
	}
	return measure{size: 1, stray: true}
}

func (s *survey) list(l []api.Value, level int) measure {
	m := measure{size: 1 + 1, depth: 1, long: len(l) > api.MaxItems}
	if len(l) == 0 || level > deepest {
		return m
	}
	place := row{&l[0], len(l)}
	if known, ok := s.known[place]; ok {
		return known
	}
	for _, v := range l {
		m = m.with(s.value(v, level))
	}
	s.keep(place, m)
	return m
}

func (s *survey) keep(place row, m measure) {
	if s.visits <= many {
		return
	}
	if s.known == nil {
		s.known = map[row]measure{}
	}
	s.known[place] = m
}

// with gives the measure of a list that has one more item.
func (m measure) with(item measure) measure {
	m.stray = m.stray || item.stray
	m.long = m.long || item.long
	m.depth = max(m.depth, item.depth+1)
	if m.size > math.MaxInt-item.size {
		m.size = math.MaxInt
	} else {
		m.size += item.size
	}
	return m
}
