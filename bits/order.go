package bits

import (
	"cmp"
	"math"
)

// place numbers the patterns of a width along their order: -0 just below 0, all that is no number at the top.
func place(b, w int) int {
	l, ok := numbers(w, b)
	switch {
	case !ok:
		return math.MaxInt
	case b&l.sign != 0:
		return -1 - b&^l.sign
	}
	return b
}

// Less tells whether one value is less than another one.
func Less(a, b, w int) bool { return widened(a, w) < widened(b, w) }

// Same tells whether two values are one.
func Same(a, b, w int) bool { return widened(a, w) == widened(b, w) }

// Order tells the order of all floats of a width: -1, 0, 1.
func Order(a, b, w int) int { return cmp.Compare(place(a, w), place(b, w)) }

// Min is the lesser one of two.
func Min(a, b, w int) int {
	l, ok := numbers(w, a, b)
	switch {
	case !ok:
		return l.nan
	case Order(a, b, w) > 0:
		return b
	}
	return a
}

// Max is the greater one of two.
func Max(a, b, w int) int {
	l, ok := numbers(w, a, b)
	switch {
	case !ok:
		return l.nan
	case Order(a, b, w) < 0:
		return b
	}
	return a
}
