package elem

import (
	"math"
	"math/big"
)

const (
	spare = 64   // how many bits more than the width's the first floats have; nearly always they are enough
	far   = 1024 // e to far is beyond all floats, and e to -far below all of them
	small = 16   // exponentials are reckoned of numbers below 2^-small
)

// lost is how many of a value's last bits may be wrong. Each step is right to the last bit, and what is added up is nearly always above 0 (else the sum is still about a third of its parts), so that errors, each relative to what it is the error of, do no more than add up. A series has few of them, and one a term; doubling an exponent doubles them, at most 28 times; what is made of an exponential has at most 3 times its errors.
const lost = 34

// precision is how many bits the floats have that are reckoned with.
type precision uint

// zero is a float of so many bits.
func (p precision) zero() *big.Float { return new(big.Float).SetPrec(uint(p)) }

// of tells a float with that many bits: it has no more of them itself.
func (p precision) of(x float64) *big.Float { return p.zero().SetFloat64(x) }

func (p precision) sum(a, b *big.Float) *big.Float { return p.zero().Add(a, b) }

func (p precision) product(a, b *big.Float) *big.Float { return p.zero().Mul(a, b) }

func (p precision) quotient(a, b *big.Float) *big.Float { return p.zero().Quo(a, b) }

// growth tells e^x - 1, of x from 0 to 2 far; not e^x, where bits would be lost near 1. Halved until it is small, x goes through the series y (1 + y/2 (1 + y/3 (1 + ..))); then the exponent is doubled as often: u becomes u (u + 2).
func (p precision) growth(x float64) *big.Float {
	_, exp := math.Frexp(x)
	halvings := max(0, exp+small)
	y := p.of(math.Ldexp(x, -halvings))
	u, v, number := p.of(1), p.zero(), p.zero()
	for i := int(p)/small + 1; i > 1; i-- {
		v.Mul(u, y)
		u.Quo(v, number.SetInt64(int64(i)))
		u.Add(u, number.SetInt64(1))
	}
	u, product := p.product(u, y), p.zero()
	for range halvings {
		v.Add(u, number.SetInt64(2))
		product.Mul(u, v)
		u, product = product, u
	}
	return u
}

// logOfRatio tells the logarithm of 1 + t by 1 - t, of t from -1/3 to 1/3: 2 (t + t^3/3 + t^5/5 + ..).
func (p precision) logOfRatio(t *big.Float) *big.Float {
	square, power, term, number := p.product(t, t), p.sum(t, t), p.zero(), p.zero()
	total := p.zero().Set(power)
	for i := 3; power.Sign() != 0 && power.MantExp(nil) >= total.MantExp(nil)-int(p); i += 2 {
		term.Mul(power, square)
		power, term = term, power
		term.Quo(power, number.SetInt64(int64(i)))
		total.Add(total, term)
	}
	return total
}

// rowsOfLog2 are the rows of the logarithm of 2: the logarithms of by + 1 by by - 1, each so many times, make it.
var rowsOfLog2 = [3]struct{ times, by int }{{9, 26}, {-1, 4801}, {4, 8749}}

// log2 tells the logarithm of 2.
func (p precision) log2() *big.Float {
	total, one := p.zero(), p.of(1)
	for _, row := range rowsOfLog2 {
		log := p.logOfRatio(p.quotient(one, p.of(float64(row.by))))
		total.Add(total, p.product(log, p.of(float64(row.times))))
	}
	return total
}

// near tells a number's size, at most far: what is farther is rounded as far is, and softplus adds its number itself.
func near(x float64) float64 { return min(math.Abs(x), far) }

// exponential tells e^x; below 0 as 1 by that above 0.
func (p precision) exponential(x float64) *big.Float {
	y := p.sum(p.growth(near(x)), p.of(1))
	if x < 0 {
		return p.quotient(p.of(1), y)
	}
	return y
}

// logarithm tells x's, with x a power of 2 times a number about 1.
func (p precision) logarithm(x float64) *big.Float {
	m, exp := math.Frexp(x)
	if m < 0.7 {
		m, exp = 2*m, exp-1
	}
	y := p.logOfRatio(p.quotient(p.sum(p.of(m), p.of(-1)), p.sum(p.of(m), p.of(1))))
	if exp == 0 {
		return y
	}
	return p.sum(y, p.product(p.log2(), p.of(float64(exp))))
}

// tangent tells the hyperbolic one: with u = e^2|x| - 1, and x's sign, u by u + 2.
func (p precision) tangent(x float64) *big.Float {
	u := p.growth(2 * near(x))
	y := p.quotient(u, p.sum(u, p.of(2)))
	if x < 0 {
		y.Neg(y)
	}
	return y
}

// sigmoid tells, with u = e^|x| - 1, u + 1 by u + 2, or below 0 1 by u + 2.
func (p precision) sigmoid(x float64) *big.Float {
	u, y := p.growth(near(x)), p.of(1)
	if x > 0 {
		y.Add(y, u)
	}
	return p.quotient(y, p.sum(u, p.of(2)))
}

// softplus tells, with u = e^|x| - 1, the logarithm of u + 2 by u + 1, and above 0 adds x.
func (p precision) softplus(x float64) *big.Float {
	u := p.growth(near(x))
	y := p.logOfRatio(p.quotient(p.of(1), p.sum(p.sum(u, u), p.of(3))))
	return p.sum(y, p.of(max(x, 0)))
}
