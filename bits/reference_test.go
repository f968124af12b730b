package bits_test

import (
	"math"
	"math/big"

	"pupil/api"
)

// What the chapter says, reckoned anew in whole numbers: the tests hold the package against it.

// number is what a pattern says: a finite one is num / den * 2^exp, signs aside.
type number struct {
	class    int
	neg      bool
	num, den *big.Int
	exp      int
}

// table is a width's row of the chapter's numbers.
type table struct{ fraction, field, least, end, inf, nan int }

func tableOf(w int) table {
	if w == 32 {
		return table{fraction: 23, field: 255, least: -149, end: 128, inf: 0x7F800000, nan: 0x7FC00001}
	}
	return table{fraction: 52, field: 2047, least: -1074, end: 1024, inf: 0x7FF0000000000000, nan: 0x7FF8000000000001}
}

func finite(neg bool, mag *big.Int, exp int) number {
	class := api.IsNormal
	if mag.Sign() == 0 {
		class = api.IsZero
	}
	return number{class: class, neg: neg, num: mag, den: big.NewInt(1), exp: exp}
}

// valueOf reads a pattern by P102 and P103.
func valueOf(b, w int) number {
	t := tableOf(w)
	if w == 32 && (b < 0 || b > 1<<32-1) {
		return number{class: api.IsNaN}
	}
	u := uint64(b)
	neg := u>>(w-1) == 1
	f := int(u >> t.fraction & uint64(t.field))
	frac := int64(u & (1<<t.fraction - 1))
	switch {
	case f == t.field && frac != 0:
		return number{class: api.IsNaN}
	case f == t.field:
		return number{class: api.IsInfinite, neg: neg}
	case f == 0 && frac == 0:
		return finite(neg, big.NewInt(0), t.least)
	case f == 0:
		n := finite(neg, big.NewInt(frac), t.least)
		n.class = api.IsSubnormal
		return n
	}
	return finite(neg, big.NewInt(1<<t.fraction+frac), t.least+f-1)
}

// units tells num / den * 2^exp in units of 2^u, rounded to the nearest, of two the even one.
func units(n number, u int) *big.Int {
	num, den := new(big.Int).Set(n.num), new(big.Int).Set(n.den)
	if n.exp >= u {
		num.Lsh(num, uint(n.exp-u))
	} else {
		den.Lsh(den, uint(u-n.exp))
	}
	q, r := new(big.Int).QuoRem(num, den, new(big.Int))
	switch r.Lsh(r, 1).Cmp(den) {
	case 1:
		q.Add(q, big.NewInt(1))
	case 0:
		q.Add(q, big.NewInt(int64(q.Bit(0))))
	}
	return q
}

// height tells the greatest k with 2^k not above num / den * 2^exp.
func height(n number) int {
	k := n.num.BitLen() - n.den.BitLen()
	a, b := new(big.Int).Set(n.num), new(big.Int).Set(n.den)
	if k >= 0 {
		b.Lsh(b, uint(k))
	} else {
		a.Lsh(a, uint(-k))
	}
	if a.Cmp(b) < 0 {
		k--
	}
	return k + n.exp
}

// pattern tells a number's pattern, rounded by P111.
func pattern(n number, w int) int {
	t := tableOf(w)
	sign := 0
	if n.neg {
		sign = 1 << (w - 1)
	}
	switch n.class {
	case api.IsNaN:
		return t.nan
	case api.IsInfinite:
		return sign | t.inf
	case api.IsZero:
		return sign
	}
	u := max(height(n)-t.fraction, t.least)
	q := units(n, u)
	if q.Sign() == 0 {
		return sign
	}
	if q.BitLen() == t.fraction+2 {
		q.Rsh(q, 1)
		u++
	}
	if q.BitLen()+u > t.end {
		return sign | t.inf
	}
	m := int(q.Int64())
	if q.BitLen() <= t.fraction {
		return sign | m
	}
	return sign | (u-t.least+1)<<t.fraction | m&(1<<t.fraction-1)
}

// signedNum is a dyadic number's whole number in units of 2^u, u not above its exponent, with its sign.
func signedNum(n number, u int) *big.Int {
	s := new(big.Int).Lsh(n.num, uint(n.exp-u))
	if n.neg {
		s.Neg(s)
	}
	return s
}

func refSum(x, y number) number {
	switch {
	case x.class == api.IsNaN || y.class == api.IsNaN:
		return number{class: api.IsNaN}
	case x.class == api.IsInfinite && y.class == api.IsInfinite && x.neg != y.neg:
		return number{class: api.IsNaN}
	case x.class == api.IsInfinite:
		return x
	case y.class == api.IsInfinite:
		return y
	}
	u := min(x.exp, y.exp)
	s := new(big.Int).Add(signedNum(x, u), signedNum(y, u))
	neg := s.Sign() < 0
	if s.Sign() == 0 {
		neg = x.class == api.IsZero && y.class == api.IsZero && x.neg && y.neg
	}
	return finite(neg, s.Abs(s), u)
}

func refProduct(x, y number) number {
	neg := x.neg != y.neg
	switch {
	case x.class == api.IsNaN || y.class == api.IsNaN:
		return number{class: api.IsNaN}
	case x.class == api.IsInfinite || y.class == api.IsInfinite:
		if x.class == api.IsZero || y.class == api.IsZero {
			return number{class: api.IsNaN}
		}
		return number{class: api.IsInfinite, neg: neg}
	}
	return finite(neg, new(big.Int).Mul(x.num, y.num), x.exp+y.exp)
}

func refQuotient(x, y number) number {
	neg := x.neg != y.neg
	switch {
	case x.class == api.IsNaN || y.class == api.IsNaN:
		return number{class: api.IsNaN}
	case x.class == y.class && (x.class == api.IsZero || x.class == api.IsInfinite):
		return number{class: api.IsNaN}
	case x.class == api.IsInfinite || y.class == api.IsZero:
		return number{class: api.IsInfinite, neg: neg}
	case y.class == api.IsInfinite || x.class == api.IsZero:
		return finite(neg, big.NewInt(0), 0)
	}
	n := finite(neg, x.num, x.exp-y.exp)
	n.den = y.num
	return n
}

// refRoot tells a root, or, where that is no dyadic number, one that rounds to every width as it does.
func refRoot(x number) number {
	switch {
	case x.class == api.IsNaN || x.class == api.IsZero:
		return x
	case x.neg:
		return number{class: api.IsNaN}
	case x.class == api.IsInfinite:
		return x
	}
	shift := 200 + x.exp&1
	s := new(big.Int).Lsh(x.num, uint(shift))
	r := new(big.Int).Sqrt(s)
	rest := new(big.Int).Mul(r, r).Cmp(s) != 0
	r.Lsh(r, 1)
	if rest {
		r.SetBit(r, 0, 1)
	}
	return finite(false, r, (x.exp-shift)/2-1)
}

func refNegated(x number) number {
	x.neg = !x.neg
	return x
}

func ofInt(n int) number {
	b := big.NewInt(int64(n))
	return finite(n < 0, b.Abs(b), 0)
}

// compare holds two values against each other; both are numbers.
func compare(x, y number) int {
	if x.class == api.IsInfinite || y.class == api.IsInfinite {
		rank := func(n number) int {
			switch {
			case n.class != api.IsInfinite:
				return 0
			case n.neg:
				return -1
			}
			return 1
		}
		return max(-1, min(1, rank(x)-rank(y)))
	}
	d := refSum(x, refNegated(y))
	switch {
	case d.class == api.IsZero:
		return 0
	case d.neg:
		return -1
	}
	return 1
}

func b64(f float64) int { return int(math.Float64bits(f)) }

func b32(f float32) int { return int(math.Float32bits(f)) }

// nones are the edges among patterns that are no number (and, of width 32, among ints that are no pattern).
func nones(w int) []int {
	if w == 32 {
		return []int{0x7FC00001, 0x7F800001, 0x7FFFFFFF, 0x7FC00000, 0xFF800001, 0xFFC00001, 0xFFFFFFFF, -1, 1 << 32, 1<<32 | 0x3F800000, -1 << 31, -1 << 63, math.MaxInt}
	}
	return []int{0x7FF8000000000001, 0x7FF0000000000001, math.MaxInt, 0x7FF8000000000000, -1, -1<<63 | 0x7FF0000000000001, -1<<63 | 0x7FF8000000000001}
}

// edges are noughts, infinities, and the ends of each class with their neighbours, of both signs.
func edges(w int) []int {
	t := tableOf(w)
	least := 1 << t.fraction
	one := t.field / 2 << t.fraction
	half := one - least
	l := []int{0, 1, 2, 3, least/2 - 1, least / 2, least - 2, least - 1, least, least + 1, 2*least - 1, 2 * least, t.inf - least, t.inf - 2, t.inf - 1, t.inf, half, half + 1, one - 1, one, one + 1, one + 2, one + least/2, one + least, one + least + least/2}
	l = append(l, pattern(ofInt(10), w), pattern(ofInt(1<<24), w), pattern(ofInt(1<<24-1), w), pattern(ofInt(1<<53), w), pattern(ofInt(1<<62), w), pattern(ofInt(math.MinInt), w))
	for _, b := range l[:len(l):len(l)] {
		l = append(l, b|1<<(w-1))
	}
	return l
}

// mixed is a row of patterns that wander all over a width, the same each time.
func mixed(w, many, seed int) []int {
	l := make([]int, many)
	for i := range l {
		z := uint64(i+1)*0x9E3779B97F4A7C15 + uint64(seed)*0xD1B54A32D192ED03
		z = (z ^ z>>30) * 0xBF58476D1CE4E5B9
		z = (z ^ z>>27) * 0x94D049BB133111EB
		z ^= z >> 31
		if i%3 == 0 { // exponents that meet, so that sums round
			t := tableOf(w)
			near := uint64(t.field/2) + z>>58
			z = z&^(uint64(t.field)<<t.fraction) | near<<t.fraction
		}
		if w == 32 {
			z &= 1<<32 - 1
		}
		l[i] = int(z)
	}
	return l
}

// all are edges and mixed patterns, numbers and others.
func all(w, many int) []int {
	return append(append(edges(w), nones(w)...), mixed(w, many, 0)...)
}
