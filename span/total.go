package span

import (
	"math"

	"pupil/bits"
	"pupil/exact"
)

const (
	digitBits = 30
	mask      = 1<<digitBits - 1
	least     = -1074 // the exponent of the last bit of the least float, which the columns begin with
	most      = 971   // that of the greatest one
	parts     = 3     // how many columns a float goes to
	places    = (most-least)/digitBits + parts
)

// total is the exact sum of lower ends, or of upper ones. What is finite of it stands in columns, which are carried once, at the end: a float adds less than 2^30 to each, so that MaxList of them don't come near the ends of the ints.
type total struct {
	columns  [places]int
	infinite float64 // the infinite end that came in: those of one side are alike
}

// add adds an end.
func (t *total) add(f float64) {
	neg, mag, exp, ok := bits.Parts(bits.Of(f), 64)
	if !ok {
		t.infinite = f
		return
	}
	sign := 1
	if neg {
		sign = -1
	}
	place := exp - least
	first, shift := place/digitBits, place%digitBits
	for k, digit := range [parts]int{mag << shift & mask, mag >> (digitBits - shift) & mask, mag >> (2*digitBits - shift)} {
		t.columns[first+k] += sign * digit
	}
}

// rounded tells the sum, rounded to a width by a way.
func (t *total) rounded(w, way int) float64 {
	if math.IsInf(t.infinite, 0) {
		return t.infinite
	}
	// No sum of so few floats is too long.
	x, _ := exact.Columns(t.columns[:], least)
	b, _, _ := exact.Round(x, w, way)
	return float(b, w)
}

// summed tells the sum of intervals, each end rounded once.
func summed(w int, intervals ...interval) interval {
	var lo, hi total
	for _, i := range intervals {
		lo.add(i.lo)
		hi.add(i.hi)
	}
	return interval{lo.rounded(w, exact.Down), hi.rounded(w, exact.Up)}
}
