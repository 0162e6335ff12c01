package style

import "choir/api"

// directory: the name of the group that all groups are made by.
const directory = "groups"

// doDue does what is due. What was done may have made, ended or changed groups,
// so that it asks again until nothing is.
func (r *Replica) doDue() {
	for n := r.due(); n > 0; n = r.due() {
		r.do(n)
	}
}

// do does the first n calls that wait. Their replies are the engine's to keep.
func (r *Replica) do(n int) {
	for _, o := range r.waiting[:n] {
		r.engine.Apply(o)
	}
	r.pass(n)
}

// due gives how many of the calls that wait are to be done at once.
func (r *Replica) due() int {
	if r.leads {
		return len(r.waiting)
	}
	styles := r.styles()
	if n := r.upTo(len(r.waiting), of(styles, api.Active)); n > 0 {
		return n
	}
	checkpoint := r.beforeCheckpoint()
	if r.upTo(checkpoint, of(styles, api.Warm)) > 0 {
		return checkpoint
	}
	return 0
}

// styles gives the styles of the groups that there are behind what was done, by
// their names. No call of the directory may wait, as it makes and ends groups:
// it counts as an active one.
func (r *Replica) styles() map[string]int {
	styles := map[string]int{directory: api.Active}
	for _, g := range r.engine.Groups() {
		styles[g.Name] = g.Style
	}
	return styles
}

// of gives what tells whether a call's group is there, and of this style.
func of(styles map[string]int, style int) func(api.Op) bool {
	return func(o api.Op) bool {
		its, there := styles[o.Group]
		return there && its == style
	}
}
