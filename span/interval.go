package span

import (
	"math"

	"pupil/api"
	"pupil/bits"
	"pupil/exact"
)

// interval is an interval's ends, as floats: binary64 has those of both widths.
type interval struct{ lo, hi float64 }

// opened tells an interval of a width.
func opened(s api.Span, w int) (interval, api.Errno) {
	if !bits.Valid(0, w) {
		return interval{}, api.ErrWidth
	}
	i := interval{float(s.Lo, w), float(s.Hi, w)}
	// What is no number is not less than anything, nor as great.
	if i.lo <= i.hi && !math.IsInf(i.lo, 1) && !math.IsInf(i.hi, -1) {
		return i, api.OK
	}
	return interval{}, api.ErrArg
}

// both tells two of them.
func both(s, t api.Span, w int) (interval, interval, api.Errno) {
	i, e := opened(s, w)
	if e != api.OK {
		return interval{}, interval{}, e
	}
	j, e := opened(t, w)
	if e != api.OK {
		return interval{}, interval{}, e
	}
	return i, j, api.OK
}

// told tells an interval of the width by its patterns, or an error alone.
func told(i interval, w int, e api.Errno) (api.Span, api.Errno) {
	if e != api.OK {
		return api.Span{}, e
	}
	return api.Span{Lo: pattern(i.lo, w), Hi: pattern(i.hi, w)}, api.OK
}

// float tells a pattern's float.
func float(b, w int) float64 { return bits.Float(bits.Convert(b, w, 64)) }

// pattern tells the pattern of a float that the width has, of both noughts that of 0.
func pattern(f float64, w int) int { return bits.Canon(bits.Convert(bits.Of(f), 64, w), w) }

// number tells the float of a finite pattern.
func number(b, w int) (float64, api.Errno) {
	f := float(b, w)
	switch {
	case !bits.Valid(0, w):
		return 0, api.ErrWidth
	case math.IsNaN(f) || math.IsInf(f, 0):
		return 0, api.ErrBits
	}
	return f, api.OK
}

// point tells the interval of one float.
func point(f float64) interval { return interval{f, f} }

// around tells the least interval of the width around an exact number.
func around(x api.Num, w int) (interval, api.Errno) {
	lo, _, e := exact.Round(x, w, exact.Down)
	if e != api.OK {
		return interval{}, e
	}
	hi, _, e := exact.Round(x, w, exact.Up)
	return interval{float(lo, w), float(hi, w)}, e
}

// turned tells the interval of the numbers with the other sign.
func (i interval) turned() interval { return interval{-i.hi, -i.lo} }

// joined tells the least interval around all.
func joined(first interval, more ...interval) interval {
	for _, i := range more {
		first = interval{min(first.lo, i.lo), max(first.hi, i.hi)}
	}
	return first
}

// holds tells whether all of another one is in it: then that adds nothing.
func (i interval) holds(j interval) bool { return joined(i, j) == i }

// exactOf tells a finite float's value.
func exactOf(f float64) api.Num {
	x, _ := exact.Of(bits.Of(f), 64)
	return x
}

// operation tells what comes of two ends, rounded to the width by a way.
type operation func(a, b float64, w, way int) float64

// crossed tells how an operation goes over two intervals, if it goes up or down with each end alone: what comes of them lies between the least and the greatest of what comes of their ends. Rounding leaves the order as it is, so each of the four may be rounded ahead of that.
func crossed(op operation, w int) func(i, j interval) interval {
	outward := func(a, b float64) interval {
		return interval{op(a, b, w, exact.Down), op(a, b, w, exact.Up)}
	}
	return func(i, j interval) interval {
		four := [4]interval{outward(i.lo, j.lo), outward(i.lo, j.hi), outward(i.hi, j.lo), outward(i.hi, j.hi)}
		return joined(four[0], four[1:]...)
	}
}

// product multiplies two ends.
func product(a, b float64, w, way int) float64 {
	switch {
	case a == 0 || b == 0:
		return 0
	case math.IsInf(a, 0) || math.IsInf(b, 0):
		return a * b
	}
	// No product of two floats is too long.
	x, _ := exact.Mul(exactOf(a), exactOf(b))
	p, _, _ := exact.Round(x, w, way)
	return float(p, w)
}

// quotient divides an end by one that is not 0.
func quotient(a, b float64, w, way int) float64 {
	switch {
	case math.IsInf(b, 0):
		return 0
	case math.IsInf(a, 0):
		return a / b
	}
	q, _, _ := exact.Quot(exactOf(a), exactOf(b), w, way)
	return float(q, w)
}
