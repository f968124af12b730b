package acc

import (
	"pupil/api"
	"pupil/bits"
	"pupil/exact"
)

// flag tells the sum of one float that is not finite.
func flag(b, w int) api.Acc {
	return api.Acc{Plus: bits.Less(0, b, w), Minus: bits.Less(b, 0, w), None: bits.Class(b, w) == api.IsNaN}
}

// notFinite tells a sum that is not finite as a float; false: it is finite.
func notFinite(a api.Acc, w int) (int, bool) {
	infinity := bits.Convert(api.Inf, 64, w)
	switch {
	case a.None || a.Plus && a.Minus:
		return bits.Convert(api.NaN, 64, w), true
	case a.Plus:
		return infinity, true
	case a.Minus:
		return bits.Neg(infinity, w), true
	}
	return 0, false
}

// signOf tells a float that makes, times what is not finite, the product that the sum would make: a finite sum need not be a float's value, but its sign is one's.
func signOf(a api.Acc, w int) int {
	if b, ok := notFinite(a, w); ok {
		return b
	}
	sign, _ := exact.Sign(a.Sum)
	return bits.FromInt(sign, w)
}
