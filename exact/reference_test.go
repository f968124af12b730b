package exact_test

import (
	"math"
	"math/big"
	"math/rand"
	"slices"
	"strconv"

	"pupil/api"
	"pupil/exact"
)

const digitTop = 1<<30 - 1

var (
	widths   = []int{32, 64}
	ways     = []int{exact.Near, exact.Down, exact.Up}
	noWidths = []int{0, 1, 8, 16, 31, 33, 63, 65, 128, -32, -64, 32 + 1<<32, 64 + 1<<32, math.MaxInt, math.MinInt}
	noWays   = []int{-1, 3, 4, 5, 1 << 32, math.MaxInt, math.MinInt}
)

// num is a number of one digit, which must be odd, or 0.
func num(neg bool, digit, exp int) api.Num {
	if digit == 0 {
		return api.Num{}
	}
	return api.Num{Neg: neg, Mag: []int{digit}, Exp: exp}
}

func same(a, b api.Num) bool { return a.Neg == b.Neg && a.Exp == b.Exp && slices.Equal(a.Mag, b.Mag) }

func isZero(x api.Num) bool { return same(x, api.Num{}) && x.Mag == nil }

// whole tells the whole number that digits say.
func whole(neg bool, mag []int) *big.Int {
	n := new(big.Int)
	switch half := len(mag) / 2; {
	case half > 0:
		n.Lsh(whole(neg, mag[half:]), uint(30*half))
		n.Add(n, whole(neg, mag[:half]))
	case len(mag) == 1:
		n.SetInt64(int64(mag[0]))
		if neg {
			n.Neg(n)
		}
	}
	return n
}

// numOf tells the one valid Num of n times 2^exp; false: there is none.
func numOf(n *big.Int, exp int) (api.Num, bool) {
	if n.Sign() == 0 {
		return api.Num{}, true
	}
	low := int(n.TrailingZeroBits())
	odd := new(big.Int).Rsh(new(big.Int).Abs(n), uint(low))
	e := new(big.Int).Add(big.NewInt(int64(exp)), big.NewInt(int64(low)))
	if odd.BitLen() > 30*api.MaxDigits || new(big.Int).Abs(e).Cmp(big.NewInt(api.MaxExp)) > 0 {
		return api.Num{}, false
	}
	x := api.Num{Neg: n.Sign() < 0, Exp: int(e.Int64())}
	for text := odd.Text(2); text != ""; text = text[:max(0, len(text)-30)] {
		d, _ := strconv.ParseInt(text[max(0, len(text)-30):], 2, 64)
		x.Mag = append(x.Mag, int(d))
	}
	return x, true
}

// mustNum is numOf where there is one.
func mustNum(n *big.Int, exp int) api.Num {
	x, ok := numOf(n, exp)
	if !ok {
		panic("no number of a test")
	}
	return x
}

// ratNum tells the Num of a rational number whose denominator is a power of 2.
func ratNum(r *big.Rat) api.Num { return mustNum(r.Num(), 1-r.Denom().BitLen()) }

// power is 2^k.
func power(k int) *big.Rat {
	one := big.NewInt(1)
	if k >= 0 {
		return new(big.Rat).SetInt(one.Lsh(one, uint(k)))
	}
	return new(big.Rat).SetFrac(big.NewInt(1), one.Lsh(one, uint(-k)))
}

func rat(x api.Num) *big.Rat {
	return new(big.Rat).Mul(new(big.Rat).SetInt(whole(x.Neg, x.Mag)), power(x.Exp))
}

// infinity tells a width's pattern of it.
func infinity(w int) int {
	if w == 32 {
		return api.Inf32
	}
	return api.Inf
}

// endless tells whether a float is infinite.
func endless(b, w int) bool { return b&^(-1<<(w-1)) == infinity(w) }

// value tells a float's value; infinity stands for the power of 2 that it begins at.
func value(b, w int) *big.Rat {
	if endless(b, w) {
		r := power(map[int]int{32: 128, 64: 1024}[w])
		if b != infinity(w) {
			r.Neg(r)
		}
		return r
	}
	if w == 32 {
		return new(big.Rat).SetFloat64(float64(math.Float32frombits(uint32(b))))
	}
	return new(big.Rat).SetFloat64(math.Float64frombits(uint64(b)))
}

// beside tells the float next to one, above or below.
func beside(b, w int, up bool) int {
	to := math.Inf(1)
	if !up {
		to = math.Inf(-1)
	}
	if w == 32 {
		return int(math.Float32bits(math.Nextafter32(math.Float32frombits(uint32(b)), float32(to))))
	}
	return int(math.Float64bits(math.Nextafter(math.Float64frombits(uint64(b)), to)))
}

// middle tells the number half way between two floats.
func middle(a, b, w int) *big.Rat {
	m := new(big.Rat).Add(value(a, w), value(b, w))
	return m.Mul(m, power(-1))
}

// against is how a number is known: its order against others.
type against func(*big.Rat) int

func asNumber(x *big.Rat) against { return x.Cmp }

// asRoot is the square root of x.
func asRoot(x *big.Rat) against {
	return func(r *big.Rat) int {
		if r.Sign() < 0 {
			return 1
		}
		return x.Cmp(new(big.Rat).Mul(r, r))
	}
}

// orderTo tells the order of a number to a float.
func orderTo(x against, b, w int) int {
	if endless(b, w) {
		if b == infinity(w) {
			return -1
		}
		return 1
	}
	return x(value(b, w))
}

// rightly tells whether a float is what a number must be rounded to, by P206's words.
func rightly(x against, b, w, way int) bool {
	if b == -1<<63 || w == 32 && (b < 0 || b>>32 != 0 || b == 1<<31) {
		return false
	}
	up, down := beside(b, w, true), beside(b, w, false)
	switch way {
	case exact.Down:
		return orderTo(x, b, w) >= 0 && (b == infinity(w) || orderTo(x, up, w) < 0)
	case exact.Up:
		return orderTo(x, b, w) <= 0 && (b == down || orderTo(x, down, w) > 0)
	}
	even := b&1 == 0
	if b != infinity(w) {
		if c := x(middle(b, up, w)); c > 0 || c == 0 && !even {
			return false
		}
	}
	if b != down {
		if c := x(middle(b, down, w)); c < 0 || c == 0 && !even {
			return false
		}
	}
	return true
}

// edges are floats of a width without signs: noughts, those at the ends of the classes, ordinary ones.
func edges(w int) []int {
	fraction := 52
	if w == 32 {
		fraction = 23
	}
	hidden, inf := 1<<fraction, infinity(w)
	one := inf>>1&^(hidden-1) | inf&(hidden-1)
	list := []int{0, 1, 2, 3, 4, hidden - 2, hidden - 1, hidden, hidden + 1, 2*hidden - 1, 2 * hidden, 2*hidden + 1, inf - 1, inf - 2, inf - 3, inf - hidden, inf - hidden - 1}
	for _, near := range []int{one, one + hidden, one + hidden*fraction, one - 20*hidden} {
		list = append(list, near-1, near, near+1, near+2, near+hidden/2, near+hidden/2+1)
	}
	return list
}

// mixed are digits of which many are at the ends of what digits can be.
func mixed(r *rand.Rand, count int) []int {
	mag := make([]int, count)
	for i := range mag {
		switch r.Intn(8) {
		case 0, 1:
			mag[i] = 0
		case 2, 3:
			mag[i] = digitTop
		case 4:
			mag[i] = []int{1, 1 << 29, 1<<29 - 1, digitTop - 1, 1<<29 + 1, 2}[r.Intn(6)]
		default:
			mag[i] = r.Intn(1 << 30)
		}
	}
	return mag
}

// some is a valid number of at most so many digits, with an exponent of at most reach, signs aside.
func some(r *rand.Rand, count, reach int) api.Num {
	mag := mixed(r, 1+r.Intn(count))
	mag[0] |= 1
	if len(mag) > 1 && mag[len(mag)-1] == 0 {
		mag[len(mag)-1] = 1 + r.Intn(digitTop)
	}
	return api.Num{Neg: r.Intn(2) == 1, Mag: mag, Exp: r.Intn(2*reach+1) - reach}
}

// long is a valid number of so many bits, all of them 1.
func long(count, exp int) api.Num {
	n := new(big.Int).Lsh(big.NewInt(1), uint(count))
	return mustNum(n.Sub(n, big.NewInt(1)), exp)
}

// invalid are Nums that are not valid.
func invalid() []api.Num {
	greatest := slices.Repeat([]int{1}, api.MaxDigits+1)
	list := []api.Num{{Neg: true}, {Exp: 1}, {Exp: -1}, {Neg: true, Mag: []int{}, Exp: 5}, {Exp: math.MinInt}, {Mag: greatest}}
	for _, mag := range [][]int{{0}, {2}, {1 << 30}, {1<<30 + 1}, {-1}, {math.MinInt + 1}, {math.MaxInt}, {1, 0}, {0, 1}, {1, -1}, {1, 1 << 30}, {1, -1, 1}, {1, 1 << 30, 1}, {1, math.MinInt, 1}, {1, 1, 0}, {1<<32 + 1, 1}} {
		list = append(list, api.Num{Mag: mag}, api.Num{Neg: true, Mag: mag, Exp: -7})
	}
	for _, exp := range []int{api.MaxExp + 1, -api.MaxExp - 1, 1 << 40, math.MaxInt, math.MinInt} {
		list = append(list, num(false, 1, exp), num(true, 3, exp))
	}
	return list
}
