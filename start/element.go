package start

import (
	"pupil/api"
	"pupil/bits"
	"pupil/rng"
	"pupil/sure"
)

// The floats that are taken from a draw are whole numbers of parts, of which 2^53 make 1: as ints they are added up without rounding.
const (
	partBits = 53
	one      = 1 << partBits
)

// elements tells what makes the elements of a parameter, one behind the other: each call takes from the draw what it needs, and tells an exact number.
func elements(x api.Init, d api.Draw) func() api.Num {
	u, a, fan := uniforms(d), sure.Of(x.A, wide), x.Rows
	switch x.Kind {
	case api.InitUniform:
		reach := sure.Sub(sure.Of(x.B, wide), a)
		return func() api.Num { return sure.Add(a, times(reach, u())) }
	case api.InitGlorot:
		fan += x.Cols
		fallthrough
	case api.InitHe:
		limit := sure.Of(rootOfSixBy(fan, x.Width), x.Width)
		return func() api.Num { return times(limit, 2*u()-one) }
	case api.InitNormal:
		return func() api.Num { return times(a, nearlyNormal(u)) }
	}
	// InitZero has an A of 0.
	return func() api.Num { return a }
}

// uniforms tells what takes numbers from 0 to below 1 from a draw, one behind the other, in parts.
func uniforms(d api.Draw) func() int {
	return func() int {
		var b int
		b, d, _ = rng.Uniform(d, wide)
		return int(bits.Float(b) * one)
	}
}

// nearlyNormal takes a number whose mean is 0 and whose variance is 1, in parts: each of the twelve has the variance 1/12.
func nearlyNormal(u func() int) int {
	const many = 12
	sum := -many / 2 * one
	for range many {
		sum += u()
	}
	return sum
}

// times tells the product of a number with parts.
func times(x api.Num, parts int) api.Num {
	return sure.Scale(sure.Mul(x, sure.Int(parts)), -partBits)
}

// rootOfSixBy tells the float that is nearest to √(6 / n).
func rootOfSixBy(n, w int) int { return sure.RootQuot(sure.Int(6), sure.Int(n), w) }
