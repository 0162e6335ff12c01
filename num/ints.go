package num

import "math"

func addInts(x, y int64) (int64, bool) {
	s := x + y
	return s, (s > x) == (y > 0)
}

func subInts(x, y int64) (int64, bool) {
	d := x - y
	return d, (d < x) == (y > 0)
}

// mulInts asks for the sign too: the least number by -1 wraps to itself, and
// divides back to itself.
func mulInts(x, y int64) (int64, bool) {
	if x == 0 || y == 0 {
		return 0, true
	}
	p := x * y
	return p, p/y == x && (p < 0) == ((x < 0) != (y < 0))
}

func divInts(x, y int64) (int64, bool) {
	if y == 0 || x == math.MinInt64 && y == -1 {
		return 0, false
	}
	return x / y, true
}
