package group

import (
	"slices"

	"choir/api"
	"choir/args"
)

// own: the name by which the directory itself is called, so that no group may
// have it.
const own = "groups"

// isCall tells whether the directory has the method, and l is what it takes.
func isCall(method string, l []api.Value) bool {
	switch method {
	case "create":
		return len(l) == 3 && isName(l[0]) && l[0].S != own && isClass(l[1]) && isStyle(l[2])
	case "destroy":
		return len(l) == 1 && isName(l[0])
	case "style":
		return len(l) == 2 && isName(l[0]) && isStyle(l[1])
	case "list":
		return len(l) == 0
	}
	return false
}

// isName tells whether v is what args takes for a name.
func isName(v api.Value) bool {
	return v.Kind == api.Text && len(v.S) > 0 && len(v.S) <= api.MaxName
}

func isClass(v api.Value) bool {
	return v.Kind == api.Text && slices.Contains(args.Classes(), v.S)
}

func isStyle(v api.Value) bool {
	return v.Kind == api.Text && slices.Contains(styles(), v.S)
}

// styles gives the names of the styles, each at its style's number.
func styles() []string {
	return []string{api.Active: "active", api.Warm: "warm", api.Cold: "cold"}
}

// styleOf gives the number of what isStyle lets through.
func styleOf(v api.Value) int { return slices.Index(styles(), v.S) }

// list gives a List of the groups, each a List of what it is.
func list(groups []api.Group) api.Value {
	var l []api.Value
	for _, g := range groups {
		l = append(l, api.Value{Kind: api.List, L: []api.Value{
			text(g.Name), text(g.Class), text(styles()[g.Style]), {Kind: api.Int, I: int64(g.Version)},
		}})
	}
	return api.Value{Kind: api.List, L: l}
}

func text(s string) api.Value { return api.Value{Kind: api.Text, S: s} }
