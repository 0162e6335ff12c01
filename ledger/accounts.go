package ledger

import (
	"cmp"
	"slices"

	"choir/api"
)

// An account is a List of a name and what it has; accounts stand in order of
// their names' bytes, so that a ledger's state doesn't tell what came when.

func account(name string, has api.Value) api.Value {
	return list([]api.Value{{Kind: api.Text, S: name}, has})
}

// isAccount tells whether v is a List of a name and what an account may have.
func isAccount(v api.Value) bool {
	return v.Kind == api.List && len(v.L) == 2 && isName(v.L[0]) && isHolding(v.L[1])
}

// isName tells whether v is what args takes for a name.
func isName(v api.Value) bool {
	return v.Kind == api.Text && len(v.S) > 0 && len(v.S) <= api.MaxName
}

func nameOf(account api.Value) string { return account.L[0].S }

func hasOf(account api.Value) api.Value { return account.L[1] }

// find gives where the name's account stands, and true; of a name that isn't
// there the place where it would stand.
func find(accounts []api.Value, name string) (at int, there bool) {
	return slices.BinarySearchFunc(accounts, name, func(account api.Value, name string) int {
		return cmp.Compare(nameOf(account), name)
	})
}

// names gives a List of the accounts' names.
func names(accounts []api.Value) api.Value {
	var l []api.Value
	for _, v := range accounts {
		l = append(l, v.L[0])
	}
	return list(l)
}

// having gives the accounts with has in the one at that place.
func having(accounts []api.Value, at int, has api.Value) []api.Value {
	return spliced(accounts, at, at+1, account(nameOf(accounts[at]), has))
}

// spliced gives the accounts with others in place of those from at up to
// behind. It copies: the accounts, and the room behind them, belong to the
// caller.
func spliced(accounts []api.Value, at, behind int, others ...api.Value) []api.Value {
	made := append([]api.Value(nil), accounts[:at]...)
	made = append(made, others...)
	return append(made, accounts[behind:]...)
}

func list(l []api.Value) api.Value { return api.Value{Kind: api.List, L: l} }
