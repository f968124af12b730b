// Package bits tells what the bits of floats of both widths say, and does single operations.
package bits

import (
	"math/bits"

	"pupil/api"
)

// The classes, in api's order.
const (
	zero = iota
	subnormal
	normal
	infinite
	none
)

// layout is where the parts of a width's patterns lie, and which patterns stand out.
type layout struct {
	sign     int // the sign bit
	infinity int // infinity's pattern
	nan      int // the one pattern of what is no number
	fraction int // how many bits the fraction has
	least    int // the exponent of the subnormals
}

// layoutOf tells a width's layout; false: there is no such width.
func layoutOf(w int) (layout, bool) {
	switch w {
	case 32:
		return layout{sign: 1 << 31, infinity: api.Inf32, nan: api.NaN32, fraction: 23, least: -149}, true
	case 64:
		return layout{sign: -1 << 63, infinity: api.Inf, nan: api.NaN, fraction: 52, least: -1074}, true
	}
	return layout{}, false
}

// numbers tells a width's layout, and whether all the patterns are numbers of it.
// Where they are not, the layout's nan is what a call answers: of no width it is 0.
func numbers(w int, patterns ...int) (layout, bool) {
	l, ok := layoutOf(w)
	for _, b := range patterns {
		ok = ok && Class(b, w) != none
	}
	return l, ok
}

// signed lays a sign on a pattern that has none.
func (l layout) signed(neg bool, b int) int {
	if neg {
		return b | l.sign
	}
	return b
}

// Valid tells whether bits are of a width.
func Valid(b, w int) bool { return w == 64 || w == 32 && b>>32 == 0 }

// Class tells what a float is: one of api's classes.
func Class(b, w int) int {
	l, ok := layoutOf(w)
	size := b &^ l.sign
	switch {
	case !ok:
		return 0
	case !Valid(b, w) || size > l.infinity:
		return none
	case size == l.infinity:
		return infinite
	case size == 0:
		return zero
	case size < 1<<l.fraction:
		return subnormal
	}
	return normal
}

// Parts tells a finite float's sign, and its value as a whole number times a power of 2; false: it is not finite.
func Parts(b, w int) (neg bool, mag, exp int, ok bool) {
	l, ok := layoutOf(w)
	if !ok || Class(b, w) >= infinite {
		return false, 0, 0, false
	}
	neg, size := b&l.sign != 0, b&^l.sign
	if size < 1<<l.fraction {
		return neg, size, l.least, true
	}
	hidden := 1 << l.fraction
	return neg, size&(hidden-1) | hidden, l.least + size>>l.fraction - 1, true
}

// Join tells the float whose value is just mag times 2^exp; false: there is none.
func Join(neg bool, mag, exp, w int) (int, bool) {
	l, ok := layoutOf(w)
	if !ok || mag < 0 {
		return 0, false
	}
	if mag == 0 {
		return l.signed(neg, 0), true
	}
	// No mag brings an exponent from beyond these back into a width; within them no sum below wraps round.
	if exp < -2000 || exp > 2000 {
		return 0, false
	}
	zeros := bits.TrailingZeros(uint(mag))
	odd, low := mag>>zeros, exp+zeros
	up := min(l.fraction+1-bits.Len(uint(odd)), low-l.least)
	if up < 0 {
		return 0, false
	}
	steps := low - up - l.least
	if steps+1 >= l.infinity>>l.fraction {
		return 0, false
	}
	// A normal one's topmost bit carries into the exponent field, which is therefore one more than the steps.
	return l.signed(neg, steps<<l.fraction+odd<<up), true
}

// Next tells the next greater float.
func Next(b, w int) int {
	l, ok := numbers(w, b)
	switch {
	case !ok:
		return l.nan
	case b == l.infinity:
		return b
	case b == l.sign:
		return 1
	case b&l.sign != 0:
		return b - 1
	}
	return b + 1
}

// Prev tells the next lesser float.
func Prev(b, w int) int { return Neg(Next(Neg(b, w), w), w) }

// Neg turns the sign.
func Neg(b, w int) int {
	l, ok := numbers(w, b)
	if !ok {
		return l.nan
	}
	return b ^ l.sign
}

// Abs leaves the sign away.
func Abs(b, w int) int {
	l, ok := numbers(w, b)
	if !ok {
		return l.nan
	}
	return b &^ l.sign
}

// Canon tells the one pattern of 0, and of what is no number.
func Canon(b, w int) int {
	l, ok := numbers(w, b)
	switch {
	case !ok:
		return l.nan
	case b == l.sign:
		return 0
	}
	return b
}
