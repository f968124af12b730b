package span_test

import (
	"math"
	"math/big"
	"math/rand"
	"strconv"
	"testing"

	"pupil/api"
	"pupil/span"
)

// What the chapter says, reckoned anew by its own words, in rational numbers: the tests hold the package against it.

var (
	widths   = []int{32, 64}
	noWidths = []int{0, 1, 9, 16, 31, 33, 63, 65, 128, -32, -64, 32 + 1<<32, 64 + 1<<32, math.MaxInt, math.MinInt}
)

// pattern tells the pattern of the float of a width that is nearest.
func pattern(f float64, w int) int {
	if w == 32 {
		return int(math.Float32bits(float32(f)))
	}
	return int(math.Float64bits(f))
}

// valueOf tells a pattern's value.
func valueOf(b, w int) float64 {
	if w == 32 {
		return float64(math.Float32frombits(uint32(b)))
	}
	return math.Float64frombits(uint64(b))
}

// pair tells the ends' patterns.
func pair(lo, hi float64, w int) api.Span { return api.Span{Lo: pattern(lo, w), Hi: pattern(hi, w)} }

// beside tells the float of a width next to one, towards another.
func beside(f, to float64, w int) float64 {
	if w == 32 {
		return float64(math.Nextafter32(float32(f), float32(to)))
	}
	return math.Nextafter(f, to)
}

var (
	inf    = math.Inf(1)
	nought = math.Copysign(0, -1) // the one below
)

// top and tiny are the greatest finite float and the least one above 0; normal is the least normal one.
func top(w int) float64 { return beside(inf, 0, w) }

func tiny(w int) float64 { return beside(0, 1, w) }

func normal(w int) float64 { return map[int]float64{32: 0x1p-126, 64: 0x1p-1022}[w] }

// real is a real number, or an infinite end with a sign.
type real struct {
	number   *big.Rat
	infinite int
}

func realOf(f float64) real {
	switch {
	case math.IsInf(f, 1):
		return real{infinite: 1}
	case math.IsInf(f, -1):
		return real{infinite: -1}
	}
	return real{number: new(big.Rat).SetFloat64(f)}
}

func (x real) sign() int {
	if x.infinite != 0 {
		return x.infinite
	}
	return x.number.Sign()
}

func (x real) compare(y real) int {
	if x.infinite != 0 || y.infinite != 0 {
		return x.infinite - y.infinite
	}
	return x.number.Cmp(y.number)
}

func least(x, y real) real {
	if y.compare(x) < 0 {
		return y
	}
	return x
}

func greatest(x, y real) real { return least(x.turned(), y.turned()).turned() }

func (x real) turned() real {
	if x.infinite != 0 {
		return real{infinite: -x.infinite}
	}
	return real{number: new(big.Rat).Neg(x.number)}
}

func (x real) plus(y real) real {
	switch {
	case x.infinite != 0:
		return x
	case y.infinite != 0:
		return y
	}
	return real{number: new(big.Rat).Add(x.number, y.number)}
}

func (x real) times(y real) real {
	if x.infinite != 0 || y.infinite != 0 {
		if s := x.sign() * y.sign(); s != 0 {
			return real{infinite: s}
		}
		return realOf(0)
	}
	return real{number: new(big.Rat).Mul(x.number, y.number)}
}

func (x real) by(y real) real {
	switch {
	case y.infinite != 0:
		return realOf(0)
	case x.infinite != 0:
		return real{infinite: x.infinite * y.sign()}
	}
	return real{number: new(big.Rat).Quo(x.number, y.number)}
}

// down tells the greatest float of the width that is not greater. (One that is nearest is beside it, if it isn't it.)
func (x real) down(w int) float64 {
	if x.infinite != 0 {
		return math.Inf(x.infinite)
	}
	f, _ := x.number.Float64()
	if w == 32 {
		g, _ := x.number.Float32()
		f = float64(g)
	}
	if realOf(f).compare(x) > 0 {
		f = beside(f, -inf, w)
	}
	return f + 0
}

func (x real) up(w int) float64 { return 0 - x.turned().down(w) }

// outward tells the interval from one number to another.
func outward(lo, hi real, w int) api.Span { return pair(lo.down(w), hi.up(w), w) }

// ends tells both ends of an interval.
func ends(s api.Span, w int) [2]real {
	return [2]real{realOf(valueOf(s.Lo, w)), realOf(valueOf(s.Hi, w))}
}

// corners tells the least and the greatest of what an operation makes of an end of each.
func corners(s, t api.Span, w int, op func(x, y real) real) (real, real) {
	var all []real
	for _, x := range ends(s, w) {
		for _, y := range ends(t, w) {
			all = append(all, op(x, y))
		}
	}
	lo, hi := all[0], all[0]
	for _, x := range all {
		lo, hi = least(lo, x), greatest(hi, x)
	}
	return lo, hi
}

func sumOf(w int, l ...api.Span) api.Span {
	lo, hi := realOf(0), realOf(0)
	for _, s := range l {
		lo, hi = lo.plus(ends(s, w)[0]), hi.plus(ends(s, w)[1])
	}
	return outward(lo, hi, w)
}

func negOf(s api.Span, w int) api.Span {
	x := ends(s, w)
	return outward(x[1].turned(), x[0].turned(), w)
}

func productOf(s, t api.Span, w int) api.Span {
	lo, hi := corners(s, t, w, real.times)
	return outward(lo, hi, w)
}

func quotientOf(s, t api.Span, w int) api.Span {
	lo, hi := corners(s, t, w, real.by)
	return outward(lo, hi, w)
}

// among tells whether a number is not less than Lo and not greater than Hi.
func among(s api.Span, x real, w int) bool {
	return ends(s, w)[0].compare(x) <= 0 && x.compare(ends(s, w)[1]) <= 0
}

// isInterval tells what P501 says of floats.
func isInterval(s api.Span, w int) bool {
	lo, hi := valueOf(s.Lo, w), valueOf(s.Hi, w)
	return !math.IsNaN(lo) && !math.IsNaN(hi) && !(lo > hi) && lo != inf && hi != -inf
}

// floats tells the edges of a width, and some between.
func floats(w int) []float64 {
	list := []float64{0, nought}
	for _, f := range []float64{tiny(w), beside(normal(w), 0, w), 1, beside(1, 2, w), 3, top(w), inf} {
		list = append(list, f, -f)
	}
	return list
}

// intervals tells all intervals whose ends are the edges.
func intervals(w int) []api.Span {
	var list []api.Span
	for _, lo := range floats(w) {
		for _, hi := range floats(w) {
			if s := pair(lo, hi, w); isInterval(s, w) {
				list = append(list, s)
			}
		}
	}
	return list
}

// noNumbers tells ints that are no numbers of the width, and no patterns of it.
func noNumbers(w int) []int {
	if w == 32 {
		return []int{api.NaN32, api.Inf32 + 1, 0xFF800001, 1<<32 - 1, 1 << 32, 1<<32 + 0x3F800000, -1, api.Inf, math.MaxInt, math.MinInt}
	}
	return []int{api.NaN, api.Inf + 1, -1, math.MaxInt, math.MinInt + api.Inf + 1}
}

// noIntervals tells pairs that are no intervals of the width.
func noIntervals(w int) []api.Span {
	list := []api.Span{pair(2, 1, w), pair(0, -tiny(w), w), pair(tiny(w), nought, w), pair(inf, inf, w), pair(-inf, -inf, w), pair(inf, -inf, w), pair(inf, 1, w), pair(1, -inf, w), pair(beside(1, 2, w), 1, w), pair(inf, top(w), w)}
	for _, b := range noNumbers(w) {
		one := pattern(1, w)
		list = append(list, api.Span{Lo: b, Hi: one}, api.Span{Lo: one, Hi: b}, api.Span{Lo: b, Hi: b}, api.Span{Lo: b, Hi: pattern(inf, w)}, api.Span{Lo: pattern(-inf, w), Hi: b})
	}
	return list
}

// finite tells some finite float: mostly a moderate one.
func finite(r *rand.Rand, w int) float64 {
	for {
		f := valueOf(int(r.Uint64()>>(64-w)), w)
		switch r.Intn(4) {
		case 0:
			f = float64(r.Intn(9) - 4)
		case 1:
			f = valueOf(pattern(r.NormFloat64(), w), w)
		case 2:
			f = valueOf(pattern(math.Ldexp(r.NormFloat64(), r.Intn(60)-30), w), w)
		}
		if !math.IsNaN(f) && !math.IsInf(f, 0) {
			return f
		}
	}
}

// some tells some interval: a point, narrow, wide, or without an end.
func some(r *rand.Rand, w int) api.Span {
	for {
		lo, hi := finite(r, w), finite(r, w)
		switch r.Intn(8) {
		case 0, 1:
			hi = lo
		case 2:
			hi = beside(lo, inf, w)
		case 3:
			lo = -inf
		case 4:
			hi = inf
		}
		if s := pair(lo, hi, w); isInterval(s, w) {
			return s
		}
	}
}

// numOf tells the one valid Num of n times 2^exp.
func numOf(n *big.Int, exp int) api.Num {
	if n.Sign() == 0 {
		return api.Num{}
	}
	low := n.TrailingZeroBits()
	odd := new(big.Int).Rsh(new(big.Int).Abs(n), low)
	x := api.Num{Neg: n.Sign() < 0, Exp: exp + int(low)}
	for text := odd.Text(2); text != ""; text = text[:max(0, len(text)-30)] {
		d, _ := strconv.ParseInt(text[max(0, len(text)-30):], 2, 64)
		x.Mag = append(x.Mag, int(d))
	}
	return x
}

// num tells the Num of a number whose denominator is a power of 2.
func (x real) num() api.Num { return numOf(x.number.Num(), 1-x.number.Denom().BitLen()) }

// power is 2^k.
func power(k int) real {
	n := new(big.Rat).SetInt(new(big.Int).Lsh(big.NewInt(1), uint(max(k, -k))))
	if k < 0 {
		n.Inv(n)
	}
	return real{number: n}
}

// noNums tells what is no valid Num.
func noNums() []api.Num {
	return []api.Num{{Neg: true}, {Exp: 1}, {Mag: []int{2}}, {Mag: []int{1, 0}}, {Mag: []int{-1}}, {Mag: []int{1 << 30}}, {Mag: []int{1 << 30, 1}}, {Mag: []int{1}, Exp: api.MaxExp + 1}, {Mag: []int{1}, Exp: -api.MaxExp - 1}, {Mag: append(make([]int, api.MaxDigits), 1)}, {Mag: []int{0}}, {Neg: true, Mag: []int{0, 1}}, {Mag: []int{1}, Exp: math.MinInt}}
}

// wants holds an answer against what it must be.
func wants(t *testing.T, got api.Span, e api.Errno, want api.Span, what ...any) {
	t.Helper()
	if got != want || e != api.OK {
		t.Errorf("%v: {%#x %#x}, %v; want {%#x %#x}", what, got.Lo, got.Hi, e, want.Lo, want.Hi)
	}
}

// refused holds an answer against an error with nothing beside it.
func refused(t *testing.T, got api.Span, e, want api.Errno, what ...any) {
	t.Helper()
	if got != (api.Span{}) || e != want {
		t.Errorf("%v: {%#x %#x}, %v; want %v alone", what, got.Lo, got.Hi, e, want)
	}
}

// called is a call of two intervals.
type called struct {
	name string
	f    func(s, t api.Span, w int) (api.Span, api.Errno)
	want func(s, t api.Span, w int) api.Span
}

// ofTwo tells the calls of two intervals, but Meet.
func ofTwo() []called {
	return []called{
		{"Add", span.Add, func(s, t api.Span, w int) api.Span { return sumOf(w, s, t) }},
		{"Sub", span.Sub, func(s, t api.Span, w int) api.Span { return sumOf(w, s, negOf(t, w)) }},
		{"Mul", span.Mul, productOf},
		{"Div", span.Div, quotientOf},
		{"Join", span.Join, func(s, t api.Span, w int) api.Span {
			return outward(least(ends(s, w)[0], ends(t, w)[0]), greatest(ends(s, w)[1], ends(t, w)[1]), w)
		}},
	}
}
