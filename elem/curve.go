package elem

import (
	"math"
	"math/big"

	"pupil/api"
	"pupil/bits"
	"pupil/exact"
)

// curve is one of the five functions. Each of them rises, from one end to another, which it never reaches.
type curve struct {
	end   func(x float64) (float64, bool)         // what stands for the value; false: there is a value
	walls func(x float64) (low, high float64)     // floats that the value lies between; where it is a float, both are that
	value func(p precision, x float64) *big.Float // nearly the value
}

// curveOf tells an operation's curve; false: it is none of the five.
func curveOf(op int) (curve, bool) {
	inf := math.Inf(1)
	switch op {
	case api.OpExp:
		return curve{end: ends(-inf, 0, inf), walls: sides(0, 0, 1, inf), value: precision.exponential}, true
	case api.OpLog:
		return curve{end: ends(0, -inf, inf), walls: sides(1, -inf, 0, inf), value: precision.logarithm}, true
	case api.OpTanh:
		return curve{end: ends(-inf, -1, 1), walls: nearerToZero, value: precision.tangent}, true
	case api.OpSigmoid:
		return curve{end: ends(-inf, 0, 1), walls: sides(0, 0, 0.5, 1), value: precision.sigmoid}, true
	case api.OpSoftplus:
		return curve{end: ends(-inf, 0, inf), walls: above, value: precision.softplus}, true
	}
	return curve{}, false
}

// ends tells what stands for a curve's values: where it begins its low end, at infinity its high one, and what is no number ahead of where it begins.
func ends(from, low, high float64) func(float64) (float64, bool) {
	return func(x float64) (float64, bool) {
		switch {
		case x == from:
			return low, true
		case math.IsInf(x, 1):
			return high, true
		case x > from:
			return 0, false
		}
		return math.NaN(), true
	}
}

// sides tells the walls of a curve that is a float at one place: ahead of the place it is less, behind it more.
func sides(place, low, middle, high float64) func(float64) (float64, float64) {
	return func(x float64) (float64, float64) {
		switch {
		case x < place:
			return low, middle
		case x > place:
			return middle, high
		}
		return middle, middle
	}
}

// nearerToZero tells the walls of the hyperbolic tangent: it is nearer to 0 than its number is, and than 1.
func nearerToZero(x float64) (float64, float64) { return max(-1, min(x, 0)), min(1, max(x, 0)) }

// above tells the walls of softplus: it is above its number, and above 0.
func above(x float64) (float64, float64) { return max(x, 0), math.Inf(1) }

// between tells to what the value is rounded, by Down and by Up, or by Near both times. It is reckoned with ever more bits until nothing else is left; the walls spare those that would tell it from a float beside it.
func (c curve) between(x float64, w, down, up int) api.Span {
	left, right := c.walls(x)
	s := api.Span{Lo: pattern(left, w), Hi: pattern(right, w)}
more:
	for p := precision(w + spare); ; p *= 2 {
		switch {
		case s.Lo == s.Hi:
			break more
		case down != up && bits.Same(bits.Next(s.Lo, w), s.Hi, w):
			break more
		}
		low, high := c.bounds(x, p)
		lo, _, _ := exact.Round(low, w, down)
		hi, _, _ := exact.Round(high, w, up)
		s = api.Span{Lo: bits.Max(s.Lo, lo, w), Hi: bits.Min(s.Hi, hi, w)}
	}
	return s
}

// bounds tells exact numbers that the value lies between.
func (c curve) bounds(x float64, p precision) (low, high api.Num) {
	y := number(c.value(p, x))
	// No number here is so long that it is refused.
	off, _ := exact.Scale(y, lost-int(p))
	low, _ = exact.Sub(y, off)
	high, _ = exact.Add(y, off)
	if y.Neg {
		return high, low
	}
	return low, high
}

// number tells a float of many bits as an exact number.
func number(f *big.Float) api.Num {
	const digitBits = 30
	long := int(f.Prec())
	fraction := new(big.Float)
	exp := f.MantExp(fraction)
	whole, _ := fraction.SetMantExp(fraction, long).Int(nil)
	var digits []int
	for whole.Abs(whole); whole.Sign() > 0; whole.Rsh(whole, digitBits) {
		digits = append(digits, int(whole.Bits()[0])&(1<<digitBits-1))
	}
	x, _ := exact.Make(f.Signbit(), digits, exp-long)
	return x
}
