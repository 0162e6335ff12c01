package table

import (
	"cmp"
	"slices"

	"choir/api"
)

// An entry is a List of a name and what it has; entries stand in order of their
// names' bytes, so that a table's state doesn't tell what came when.

// isEntry tells whether v is a List of a name and a value.
func isEntry(v api.Value) bool {
	return v.Kind == api.List && len(v.L) == 2 && isName(v.L[0])
}

// isName tells whether v is what args takes for a name.
func isName(v api.Value) bool {
	return v.Kind == api.Text && len(v.S) > 0 && len(v.S) <= api.MaxName
}

func nameOf(entry api.Value) string { return entry.L[0].S }

// find gives where the name's entry stands and the place behind it; of a name
// that isn't there both are the place where it would stand.
func find(entries []api.Value, name string) (at, behind int) {
	at, found := slices.BinarySearchFunc(entries, name, func(entry api.Value, name string) int {
		return cmp.Compare(nameOf(entry), name)
	})
	if found {
		return at, at + 1
	}
	return at, at
}

// held gives what the name has whose entry, if there is one, was found.
func held(found []api.Value) api.Value {
	if len(found) == 0 {
		return api.Value{}
	}
	return found[0].L[1]
}

// names gives a List of the entries' names.
func names(entries []api.Value) api.Value {
	var l []api.Value
	for _, entry := range entries {
		l = append(l, entry.L[0])
	}
	return list(l)
}

// spliced gives the entries with others in place of those from at up to behind.
// It copies: the entries, and the room behind them, belong to the caller.
func spliced(entries []api.Value, at, behind int, others ...api.Value) []api.Value {
	made := append([]api.Value(nil), entries[:at]...)
	made = append(made, others...)
	return append(made, entries[behind:]...)
}

func list(l []api.Value) api.Value { return api.Value{Kind: api.List, L: l} }
