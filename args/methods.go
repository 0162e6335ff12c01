package args

import "choir/api"

// signature: what a method takes, in its order, and whether it writes.
type signature struct {
	takes  []kind
	more   int // how many more of the last kind it may take
	writes bool
}

// takesMany tells whether the method may have n arguments.
func (s signature) takesMany(n int) bool {
	least := len(s.takes)
	return least <= n && n <= least+s.more
}

// at gives what the i-th of the arguments, of which takesMany is true, must be.
func (s signature) at(i int) kind {
	return s.takes[min(i, len(s.takes)-1)]
}

// methodsOf gives a class's methods by their names; none of no class. Its maps
// are made anew for each call: a map at package level could be changed.
func methodsOf(class string) map[string]signature {
	switch class {
	case counter:
		return counterMethods()
	case ledger:
		return ledgerMethods()
	case orch:
		return orchMethods()
	case queue:
		return queueMethods()
	case register:
		return registerMethods()
	case table:
		return tableMethods()
	}
	return nil
}

func counterMethods() map[string]signature {
	return map[string]signature{
		"add":   {takes: []kind{number}, writes: true},
		"count": {},
		"reset": {writes: true},
		"total": {},
	}
}

func ledgerMethods() map[string]signature {
	return map[string]signature{
		"balance":  {takes: []kind{name}},
		"close":    {takes: []kind{name}, writes: true},
		"deposit":  {takes: []kind{name, number}, writes: true},
		"names":    {},
		"open":     {takes: []kind{name}, writes: true},
		"total":    {},
		"transfer": {takes: []kind{name, name, number}, writes: true},
	}
}

func orchMethods() map[string]signature {
	return map[string]signature{
		"fail": {writes: true},
		"run":  {takes: []kind{step}, more: api.MaxSteps - 1, writes: true},
		"runs": {},
	}
}

func queueMethods() map[string]signature {
	return map[string]signature{
		"len":  {},
		"nth":  {takes: []kind{whole}},
		"peek": {},
		"pop":  {writes: true},
		"push": {takes: []kind{anything}, writes: true},
	}
}

func registerMethods() map[string]signature {
	return map[string]signature{
		"cas": {takes: []kind{anything, anything}, writes: true},
		"get": {},
		"set": {takes: []kind{anything}, writes: true},
	}
}

func tableMethods() map[string]signature {
	return map[string]signature{
		"del":  {takes: []kind{name}, writes: true},
		"get":  {takes: []kind{name}},
		"keys": {},
		"put":  {takes: []kind{name, anything}, writes: true},
		"size": {},
	}
}
