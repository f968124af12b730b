package bits

import "math"

// floats are the language's own, of both widths.
type floats interface{ float32 | float64 }

// The single operations.
const (
	sum = iota
	difference
	product
	quotient
	root
)

// single does one operation in the floats of a width (root takes x alone).
// Each conversion bars the fusing of the operation with what its caller does.
func single[F floats](op int, x, y F) F {
	switch op {
	case sum:
		return F(x + y)
	case difference:
		return F(x - y)
	case product:
		return F(x * y)
	case quotient:
		return F(x / y)
	}
	// A binary32's root, rounded to binary64 and then narrowed, is as if rounded once: 53 bits are more than twice 24.
	return F(math.Sqrt(float64(x)))
}

// apply does one operation on the patterns of a width.
func apply(op, a, b, w int) int {
	switch w {
	case 32:
		return Of32(single(op, Float32(a), Float32(b)))
	case 64:
		return Of(single(op, Float(a), Float(b)))
	}
	return 0
}

// Add is the single sum.
func Add(a, b, w int) int { return apply(sum, a, b, w) }

// Sub is the single difference.
func Sub(a, b, w int) int { return apply(difference, a, b, w) }

// Mul is the single product.
func Mul(a, b, w int) int { return apply(product, a, b, w) }

// Div is the single quotient.
func Div(a, b, w int) int { return apply(quotient, a, b, w) }

// Sqrt is the single square root.
func Sqrt(a, w int) int { return apply(root, a, a, w) }

// Fma is a product and a sum, rounded once.
func Fma(a, b, c, w int) int {
	switch w {
	case 32:
		return Of32(fused32(Float32(a), Float32(b), Float32(c)))
	case 64:
		return Of(math.FMA(Float(a), Float(b), Float(c)))
	}
	return 0
}

// fused32 is a product and a sum of binary32, rounded once. Binary64 has the product exactly;
// their sum is rounded there to an odd pattern, wherever it is rounded at all, so that the narrowing
// can take it neither for a tie nor for a number on the other side of one.
func fused32(x, y, z float32) float32 {
	p, q := float64(float64(x)*float64(y)), float64(z)
	s := p + q
	back := s - p
	rest := (p - (s - back)) + (q - back)
	b := Of(s)
	switch {
	case b&1 != 0:
		return float32(s)
	case rest > 0:
		return float32(Float(Next(b, 64)))
	case rest < 0:
		return float32(Float(Prev(b, 64)))
	}
	return float32(s)
}
