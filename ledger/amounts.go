package ledger

import (
	"math"

	"choir/api"
	"choir/num"
)

// nothing gives what an account has that was opened: not the negative nought.
func nothing() api.Value { return api.Value{Kind: api.Float} }

// isHolding tells whether an account may have v. It asks for the sign's bit, as
// the negative nought isn't below 0, and yet none.
func isHolding(v api.Value) bool {
	return v.Kind == api.Float && num.Finite(v) && !math.Signbit(v.F)
}

// amount gives n, a number, as a Float; ErrRange, unless it is finite and above
// 0. An Int is the Float nearest to it from here on, so that what is compared
// is what is moved.
func amount(n api.Value) (api.Value, api.Errno) {
	if !num.Finite(n) || num.Sign(n) <= 0 {
		return api.Value{}, api.ErrRange
	}
	return num.Add(nothing(), n)
}

// more gives what the account has with the amount n more; ErrRange, if that isn't
// finite.
func more(account, n api.Value) (api.Value, api.Errno) {
	sum, _ := num.Add(hasOf(account), n) // two Floats always have one
	if !num.Finite(sum) {
		return api.Value{}, api.ErrRange
	}
	return sum, api.OK
}

// less gives what the account has with the amount n less; ErrFunds, if it has
// less than that. What is left of two that are alike is the positive nought.
func less(account, n api.Value) (api.Value, api.Errno) {
	if hasOf(account).F < n.F {
		return api.Value{}, api.ErrFunds
	}
	return num.Sub(hasOf(account), n)
}
