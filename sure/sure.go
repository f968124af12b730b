// Package sure has the calls of exact numbers for those who ask for nothing that is refused: floats that are finite, products of some of them, and their sums, which are never too long.
package sure

import (
	"pupil/api"
	"pupil/bits"
	"pupil/exact"
)

// Of tells the value of a finite float.
func Of(b, w int) api.Num {
	x, _ := exact.Of(b, w)
	return x
}

// Int tells a whole number.
func Int(n int) api.Num { return exact.Int(n) }

// Neg turns the sign.
func Neg(x api.Num) api.Num {
	n, _ := exact.Neg(x)
	return n
}

// Add adds.
func Add(a, b api.Num) api.Num {
	x, _ := exact.Add(a, b)
	return x
}

// Sub takes the second from the first.
func Sub(a, b api.Num) api.Num {
	x, _ := exact.Sub(a, b)
	return x
}

// Mul multiplies.
func Mul(a, b api.Num) api.Num {
	x, _ := exact.Mul(a, b)
	return x
}

// Scale multiplies with a power of 2.
func Scale(x api.Num, k int) api.Num {
	s, _ := exact.Scale(x, k)
	return s
}

// Sign tells -1, 0 or 1.
func Sign(x api.Num) int {
	s, _ := exact.Sign(x)
	return s
}

// Round tells the nearest float.
func Round(x api.Num, w int) int {
	b, _, _ := exact.Round(x, w, exact.Near)
	return b
}

// Quot tells the float that is nearest to a quotient. By 0 it is what the single operation makes of the sign: infinite, or no number.
func Quot(a, b api.Num, w int) int {
	q, _, e := exact.Quot(a, b, w, exact.Near)
	if e == api.ErrDivide {
		return bits.Div(bits.FromInt(Sign(a), w), 0, w)
	}
	return q
}

// RootQuot tells the float that is nearest to the square root of a quotient that is not below 0, by what is not 0.
func RootQuot(a, b api.Num, w int) int {
	q, _, _ := exact.RootQuot(a, b, w, exact.Near)
	return q
}
