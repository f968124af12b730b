package elem

import "pupil/api"

// Bounds hands the tests the bounds that floats of so many bits make.
func Bounds(op int, x float64, bits uint) (low, high api.Num) {
	c, _ := curveOf(op)
	return c.bounds(x, precision(bits))
}
