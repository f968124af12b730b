package acc_test

import (
	"math"
	"math/big"
	"math/rand"
	"slices"
	"testing"

	"pupil/acc"
	"pupil/api"
)

const digitTop = 1<<30 - 1

var (
	widths   = []int{32, 64}
	noWidths = []int{0, 1, 7, 16, 31, 33, 63, 65, 128, -32, -64, 32 + 1<<32, 64 + 1<<32, math.MaxInt, math.MinInt}
	noBits32 = []int{-1, 1 << 32, 1<<32 + 1, math.MinInt, math.MaxInt, -1 << 31}
)

func b64(f float64) int { return int(math.Float64bits(f)) }

// float tells the value of bits.
func float(b, w int) float64 {
	if w == 32 {
		return float64(math.Float32frombits(uint32(b)))
	}
	return math.Float64frombits(uint64(b))
}

// patternOf tells the pattern of a width of a float that the width has.
func patternOf(f float64, w int) int {
	switch {
	case f != f && w == 32:
		return api.NaN32
	case f != f:
		return api.NaN
	case w == 32:
		return int(math.Float32bits(float32(f)))
	}
	return b64(f)
}

// power is a whole number times a power of 2.
type power struct {
	n   *big.Int
	exp int
}

func powerOf(b, w int) power {
	fraction, exp := math.Frexp(float(b, w))
	return power{big.NewInt(int64(fraction * (1 << 53))), exp - 53}
}

// whole tells the whole number that digits say.
func whole(neg bool, mag []int) *big.Int {
	words := make([]big.Word, len(mag)+1)
	for i, d := range mag {
		at, shift := 30*i/64, 30*i%64
		words[at] |= big.Word(d) << shift
		words[at+1] |= big.Word(d) >> (64 - shift)
	}
	n := new(big.Int).SetBits(words)
	if neg {
		n.Neg(n)
	}
	return n
}

func numbered(x api.Num) power { return power{whole(x.Neg, x.Mag), x.Exp} }

// plus is the sum; 0 puts nothing to its place.
func (a power) plus(b power) power {
	switch {
	case a.n.Sign() == 0:
		return b
	case b.n.Sign() == 0:
		return a
	case a.exp > b.exp:
		return b.plus(a)
	}
	n := new(big.Int).Lsh(b.n, uint(b.exp-a.exp))
	return power{n.Add(n, a.n), a.exp}
}

func (a power) times(b power) power { return power{new(big.Int).Mul(a.n, b.n), a.exp + b.exp} }

// num tells the one valid Num; false: there is none.
func (a power) num() (api.Num, bool) {
	if a.n.Sign() == 0 {
		return api.Num{}, true
	}
	low := int(a.n.TrailingZeroBits())
	odd := new(big.Int).Rsh(new(big.Int).Abs(a.n), uint(low))
	x := api.Num{Neg: a.n.Sign() < 0, Exp: a.exp + low}
	if odd.BitLen() > 30*api.MaxDigits || max(x.Exp, -x.Exp) > api.MaxExp {
		return api.Num{}, false
	}
	words := append(odd.Bits(), 0)
	for place := 0; place < odd.BitLen(); place += 30 {
		at, shift := place/64, place%64
		x.Mag = append(x.Mag, int(words[at]>>shift|words[at+1]<<(64-shift))&digitTop)
	}
	return x, true
}

// nearest tells the n-th part's float by the library's rounding.
func (a power) nearest(n, w int) int {
	const far = 200000
	if a.n.Sign() == 0 || a.exp+a.n.BitLen() < -far {
		return 0
	}
	if a.exp > far {
		return patternOf(math.Inf(a.n.Sign()), w)
	}
	r := new(big.Rat).SetInt(a.n)
	shift := new(big.Rat).SetInt(new(big.Int).Lsh(big.NewInt(1), uint(max(a.exp, -a.exp))))
	if a.exp < 0 {
		shift.Inv(shift)
	}
	r.Mul(r, shift)
	r.Quo(r, new(big.Rat).SetInt64(int64(n)))
	f, _ := r.Float64()
	if w == 32 {
		narrow, _ := r.Float32()
		f = float64(narrow)
	}
	if f == 0 { // never -0
		return 0
	}
	return patternOf(f, w)
}

// total is a sum as the chapter's words make it.
type total struct {
	sum               power
	plus, minus, none bool
}

func totalOf(a api.Acc) total { return total{numbered(a.Sum), a.Plus, a.Minus, a.None} }

func (x total) merged(y total) total {
	return total{x.sum.plus(y.sum), x.plus || y.plus, x.minus || y.minus, x.none || y.none}
}

var nothing = total{sum: power{n: new(big.Int)}}

// ofFloat is P302's.
func ofFloat(b, w int) total {
	x := nothing
	switch f := float(b, w); {
	case f != f:
		x.none = true
	case math.IsInf(f, 1):
		x.plus = true
	case math.IsInf(f, -1):
		x.minus = true
	default:
		x.sum = powerOf(b, w)
	}
	return x
}

// ofProduct is P303's.
func ofProduct(a, b, w int) total {
	x, f, g := nothing, float(a, w), float(b, w)
	infinite := math.IsInf(f, 0) || math.IsInf(g, 0)
	switch alike := math.Signbit(f) == math.Signbit(g); {
	case f != f || g != g, infinite && (f == 0 || g == 0):
		x.none = true
	case infinite && alike:
		x.plus = true
	case infinite:
		x.minus = true
	default:
		x.sum = powerOf(a, w).times(powerOf(b, w))
	}
	return x
}

// timesFloat is P305's.
func (x total) timesFloat(b, w int) total {
	f, y := float(b, w), nothing
	switch {
	case f != f:
		y.none = true
	case f == 0:
		y.none = x.plus || x.minus || x.none
	case math.IsInf(f, 0):
		sign := x.sum.n.Sign()
		switch {
		case x.none || x.plus && x.minus || sign == 0 && !x.plus && !x.minus:
			y.none = true
		case (x.plus || !x.minus && sign > 0) == (f > 0):
			y.plus = true
		default:
			y.minus = true
		}
	case f < 0:
		y = total{x.sum.times(powerOf(b, w)), x.minus, x.plus, x.none}
	default:
		y = total{x.sum.times(powerOf(b, w)), x.plus, x.minus, x.none}
	}
	return y
}

// nearest is P306's Mean; with 1 its Round.
func (x total) nearest(n, w int) int {
	switch {
	case x.none || x.plus && x.minus:
		return patternOf(math.NaN(), w)
	case x.plus:
		return patternOf(math.Inf(1), w)
	case x.minus:
		return patternOf(math.Inf(-1), w)
	}
	return x.sum.nearest(n, w)
}

func sameNum(a, b api.Num) bool {
	return a.Neg == b.Neg && a.Exp == b.Exp && slices.Equal(a.Mag, b.Mag)
}

func same(a, b api.Acc) bool {
	return sameNum(a.Sum, b.Sum) && a.Plus == b.Plus && a.Minus == b.Minus && a.None == b.None
}

// isZero tells whether nothing is told.
func isZero(a api.Acc) bool { return same(a, api.Acc{}) && a.Sum.Mag == nil }

// wants holds an answer against what is asked.
func wants(t *testing.T, got api.Acc, e api.Errno, want total, name string, given ...any) {
	t.Helper()
	x, ok := want.sum.num()
	switch {
	case !ok && (e != api.ErrLong || !isZero(got)):
		t.Errorf("%s of %v: %v; want ErrLong, and nothing beside it", name, given, e)
	case ok && (e != api.OK || !same(got, api.Acc{Sum: x, Plus: want.plus, Minus: want.minus, None: want.none}) || !acc.Valid(got)):
		t.Errorf("%s of %v: %v, %v; want %v and %t %t %t", name, given, got, e, x, want.plus, want.minus, want.none)
	}
}

// infinity tells a width's pattern of it.
func infinity(w int) int { return patternOf(math.Inf(1), w) }

// edges are patterns of a width, with both signs: noughts, those at the ends of the classes, ordinary ones, infinities, some that are no number.
func edges(w int) []int {
	fraction := 52
	if w == 32 {
		fraction = 23
	}
	hidden, inf := 1<<fraction, infinity(w)
	one := patternOf(1, w)
	list := []int{0, 1, 2, 3, hidden - 1, hidden, hidden + 1, 2*hidden - 1, 2 * hidden, one - 1, one, one + 1, one + 2, one + hidden, one + hidden/2, one - 20*hidden, inf - hidden, inf - 2, inf - 1, inf, inf + 1, inf + hidden/2, inf + hidden - 1}
	for _, b := range slices.Clone(list) {
		list = append(list, b|-1<<(w-1)&(1<<w-1))
	}
	return list
}

// anyFloat is a pattern of a width, mostly finite.
func anyFloat(r *rand.Rand, w int) int {
	if r.Intn(4) == 0 {
		list := edges(w)
		return list[r.Intn(len(list))]
	}
	return finite(r, w)
}

// finite is a pattern of a finite float, of any size.
func finite(r *rand.Rand, w int) int {
	b := r.Intn(infinity(w))
	if r.Intn(2) == 0 {
		b |= -1 << (w - 1) & (1<<w - 1)
	}
	return b
}

// long is a Num of so many bits, all of them 1.
func long(neg bool, count, exp int) api.Num {
	n := new(big.Int).Lsh(big.NewInt(1), uint(count))
	n.Sub(n, big.NewInt(1))
	if neg {
		n.Neg(n)
	}
	x, ok := power{n, exp}.num()
	if !ok {
		panic("no number of a test")
	}
	return x
}

// num is a Num of one digit, which must be odd, or 0.
func num(neg bool, digit, exp int) api.Num {
	if digit == 0 {
		return api.Num{}
	}
	return api.Num{Neg: neg, Mag: []int{digit}, Exp: exp}
}

// nums are valid numbers: 0, small ones, beyond all floats, of all bits that there are, at the ends of the exponents.
var nums = someNums()

func someNums() []api.Num {
	const bits = 30 * api.MaxDigits
	list := []api.Num{{}, {Mag: []int{}}}
	for _, neg := range []bool{false, true} {
		list = append(list, num(neg, 1, 0), num(neg, 3, 0), num(neg, 5, -1074), num(neg, 1, -1075), num(neg, 1, -5000), num(neg, 1, 1024), num(neg, 7, 5000), num(neg, 1, 58926), num(neg, 1, 58925), num(neg, 1, 60000), num(neg, 1, 70000),
			long(neg, 53, -52), long(neg, 54, -53), long(neg, 24, 104), long(neg, 25, 103), long(neg, 53, 971), long(neg, 54, 970), api.Num{Neg: neg, Mag: []int{1, 0, 0, 5}, Exp: -9},
			long(neg, bits, 0), long(neg, bits, -1074), long(neg, bits-1, 0), long(neg, bits-52, 0), long(neg, bits-53, -1), num(neg, 1, api.MaxExp), num(neg, 3, api.MaxExp-1), num(neg, 1, -api.MaxExp), num(neg, 3, 1-api.MaxExp), long(neg, bits, api.MaxExp), long(neg, bits, -api.MaxExp))
	}
	return list
}

// noNums are Nums that are not valid.
func noNums() []api.Num {
	return []api.Num{{Neg: true}, {Exp: 1}, {Neg: true, Mag: []int{}, Exp: -3}, {Mag: []int{0}}, {Mag: []int{2}}, {Mag: []int{1, 0}}, {Mag: []int{1 << 30}}, {Mag: []int{1<<30 + 1}}, {Mag: []int{-1}}, {Mag: []int{1, -1, 1}}, {Mag: []int{1}, Exp: api.MaxExp + 1}, {Mag: []int{1}, Exp: -api.MaxExp - 1}, {Mag: []int{1}, Exp: math.MinInt}, {Mag: slices.Repeat([]int{1}, api.MaxDigits+1)}}
}

// flagged are the sums with one Num and all flags.
func flagged(x api.Num) []api.Acc {
	var list []api.Acc
	for i := range 8 {
		list = append(list, api.Acc{Sum: x, Plus: i&1 != 0, Minus: i&2 != 0, None: i&4 != 0})
	}
	return list
}
