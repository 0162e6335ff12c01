package engine

import (
	"choir/api"
	"choir/args"
	"choir/guard"
	"choir/object"
	"choir/opid"
	"choir/orch"
)

// directory: the name of the group that all groups are made by.
const directory = "groups"

// answer gives the reply that a call comes to, and puts it. Whatever panics in
// it goes no farther than its reply.
func (e *Engine) answer(id api.OpId, do func() (api.Value, api.Errno)) api.Reply {
	v, err := guard.Run(do)
	r := api.Reply{Id: id, Err: err, V: v}
	e.replies.Put(r)
	return r
}

// call does a client's call.
func (e *Engine) call(o api.Op) (api.Value, api.Errno) {
	switch {
	case o.Group == directory:
		return e.callDirectory(o.Method, o.Args)
	case o.Method == "run" && e.isOrch(o.Group):
		return e.run(o)
	}
	return e.callObject(o.Group, o.Method, o.Args)
}

// callDirectory does a call of the directory; objects come and go with their
// groups.
func (e *Engine) callDirectory(method string, l []api.Value) (api.Value, api.Errno) {
	answer, err := e.groups.Do(method, l)
	if err != api.OK {
		return api.Value{}, err
	}
	switch method {
	case "create":
		e.states[l[0].S], _ = args.Start(l[1].S)
	case "destroy":
		delete(e.states, l[0].S)
	}
	return answer, api.OK
}

// callObject does a call of a group's object; ErrBadRef, if there is no such
// group.
func (e *Engine) callObject(name, method string, l []api.Value) (api.Value, api.Errno) {
	g, there := e.groups.Get(name)
	if !there {
		return api.Value{}, api.ErrBadRef
	}
	then, answer, err := object.Do(g.Class, e.states[name], method, l)
	if err != api.OK {
		return api.Value{}, err
	}
	e.states[name] = then
	return answer, api.OK
}

// run does a run of an orch: its steps, one by one, and then its end. What the
// steps did stays, whatever the end comes to.
func (e *Engine) run(o api.Op) (api.Value, api.Errno) {
	steps, err := orch.Plan(o.Args)
	if err != api.OK {
		return api.Value{}, err
	}
	var results []api.Value
	for i, s := range steps {
		id, _ := opid.Nested(o.Id, i+1)
		r := e.answer(id, func() (api.Value, api.Errno) { return e.step(s) })
		results = append(results, result(r))
	}
	then, answer, err := orch.Do(e.states[o.Group], o.Method, results)
	if err != api.OK {
		return api.Value{}, err
	}
	e.states[o.Group] = then
	return answer, api.OK
}

// step does a call of a run. It may make no calls itself, nor groups.
func (e *Engine) step(s api.Step) (api.Value, api.Errno) {
	if s.Group == directory || e.isOrch(s.Group) {
		return api.Value{}, api.ErrNest
	}
	return e.callObject(s.Group, s.Method, s.Args)
}

// isOrch tells whether the group is there, and of the class whose calls make
// calls.
func (e *Engine) isOrch(name string) bool {
	g, _ := e.groups.Get(name)
	return g.Class == "orch"
}

// result gives what a run is told of the reply to a step.
func result(r api.Reply) api.Value {
	if r.Err == api.OK {
		return r.V
	}
	return api.Value{Kind: api.List, L: []api.Value{
		{Kind: api.Text, S: "error"}, {Kind: api.Int, I: int64(r.Err)},
	}}
}
