package args

import "choir/api"

// kind: what an argument must be, beyond a value that value.Check lets through.
type kind int

const (
	anything kind = iota
	whole
	number
	name
	step
)

// holds tells whether v is of this kind.
func (k kind) holds(v api.Value) bool {
	switch k {
	case whole:
		return v.Kind == api.Int
	case number:
		return v.Kind == api.Int || v.Kind == api.Float
	case name:
		return v.Kind == api.Text && len(v.S) > 0 && len(v.S) <= api.MaxName
	case step:
		return v.Kind == api.List && beginsAsStep(v.L)
	}
	return true
}

// beginsAsStep tells whether a group's name and a method's are ahead. The args
// behind them are any: what they must be is asked when the step is a call.
func beginsAsStep(l []api.Value) bool {
	return len(l) >= 2 && name.holds(l[0]) && name.holds(l[1])
}
