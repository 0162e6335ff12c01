package num

// The conversions below change no number: they keep the operation from being
// fused with one beside it, which would save a rounding.

func addFloats(x, y float64) float64 { return float64(x + y) }

func subFloats(x, y float64) float64 { return float64(x - y) }

func mulFloats(x, y float64) float64 { return float64(x * y) }

func divFloats(x, y float64) float64 { return float64(x / y) }
