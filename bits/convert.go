package bits

import (
	"math"

	"pupil/api"
)

// widened tells a pattern's value as a binary64, which has all values of both widths; of no width it is no number.
func widened(b, w int) float64 {
	switch w {
	case 32:
		return float64(Float32(b))
	case 64:
		return Float(b)
	}
	return math.NaN()
}

// Convert tells a float of one width as one of another width.
func Convert(b, from, to int) int {
	if _, ok := layoutOf(from); !ok {
		return 0
	}
	switch to {
	case 32:
		return Of32(float32(widened(b, from)))
	case 64:
		return Of(widened(b, from))
	}
	return 0
}

// FromInt rounds an int.
func FromInt(n, w int) int {
	switch w {
	case 32:
		return Of32(float32(n))
	case 64:
		return Of(float64(n))
	}
	return 0
}

// ToInt rounds to an int; false: there is none.
func ToInt(b, w int) (int, bool) {
	whole := math.RoundToEven(widened(b, w))
	if whole >= -0x1p63 && whole < 0x1p63 {
		return int(whole), true
	}
	return 0, false
}

// Float tells the float with a pattern of 64 bits.
func Float(b int) float64 { return math.Float64frombits(uint64(b)) }

// Of tells a binary64's pattern.
func Of(f float64) int {
	if f != f {
		return api.NaN
	}
	return int(math.Float64bits(f))
}

// Float32 tells the float with a pattern of 32 bits.
func Float32(b int) float32 {
	if !Valid(b, 32) {
		return math.Float32frombits(api.NaN32)
	}
	return math.Float32frombits(uint32(b))
}

// Of32 tells a binary32's pattern.
func Of32(f float32) int {
	if f != f {
		return api.NaN32
	}
	return int(math.Float32bits(f))
}
