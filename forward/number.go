package forward

import (
	"pupil/api"
	"pupil/bits"
	"pupil/exact"
)

// The calls of exact numbers, where they refuse nothing: a few products of finite floats, and their sums, are never too long.

func valueOf(b, w int) api.Num {
	x, _ := exact.Of(b, w)
	return x
}

func whole(n int) api.Num { return exact.Int(n) }

func plus(a, b api.Num) api.Num {
	x, _ := exact.Add(a, b)
	return x
}

func minus(a, b api.Num) api.Num {
	x, _ := exact.Sub(a, b)
	return x
}

func times(a, b api.Num) api.Num {
	x, _ := exact.Mul(a, b)
	return x
}

func sign(x api.Num) int {
	s, _ := exact.Sign(x)
	return s
}

// nearest rounds a number once.
func nearest(x api.Num, w int) int {
	b, _, _ := exact.Round(x, w, exact.Near)
	return b
}

// quotient rounds a quotient once. By 0 it is what the single operation makes of the sign: infinite, or no number.
func quotient(a, b api.Num, w int) int {
	q, _, e := exact.Quot(a, b, w, exact.Near)
	if e == api.ErrDivide {
		return bits.Div(bits.FromInt(sign(a), w), 0, w)
	}
	return q
}
