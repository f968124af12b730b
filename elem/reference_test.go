package elem_test

import (
	"math"
	"math/big"
	"math/rand"
	"testing"

	"pupil/api"
	"pupil/elem"
)

// What the chapter says, reckoned anew by its own words, with far more bits than any answer needs: the tests hold the package against it.

// call is one of the five.
type call struct {
	name string
	op   int
	f    func(b, w int) (int, api.Errno)
}

var calls = []call{
	{"Exp", api.OpExp, elem.Exp},
	{"Log", api.OpLog, elem.Log},
	{"Tanh", api.OpTanh, elem.Tanh},
	{"Sigmoid", api.OpSigmoid, elem.Sigmoid},
	{"Softplus", api.OpSoftplus, elem.Softplus},
}

var (
	widths   = []int{32, 64}
	noWidths = []int{0, 1, 7, 16, 31, 33, 63, 65, 128, -32, -64, 32 + 1<<32, 64 + 1<<32, math.MaxInt, math.MinInt}
)

func b64(f float64) int { return int(math.Float64bits(f)) }

// ofWidth tells the pattern of the float of a width that is nearest.
func ofWidth(f float64, w int) int {
	if w == 32 {
		return int(math.Float32bits(float32(f)))
	}
	return b64(f)
}

// valueOf tells a pattern's value.
func valueOf(b, w int) float64 {
	if w == 32 {
		return float64(math.Float32frombits(uint32(b)))
	}
	return math.Float64frombits(uint64(b))
}

// beside tells the float next to one, towards another.
func beside(f, to float64, w int) float64 {
	if w == 32 {
		return float64(math.Nextafter32(float32(f), float32(to)))
	}
	return math.Nextafter(f, to)
}

// inf and none tell the patterns of infinity and of what is no number.
func inf(w int) int { return map[int]int{32: api.Inf32, 64: api.Inf}[w] }

func none(w int) int { return map[int]int{32: api.NaN32, 64: api.NaN}[w] }

// minus turns a pattern's sign.
func minus(b, w int) int {
	if w == 32 {
		return b ^ 1<<31
	}
	return b ^ -1<<63
}

// bigOf is a float of so many bits.
func bigOf(f float64, prec uint) *big.Float { return new(big.Float).SetPrec(prec).SetFloat64(f) }

// series adds up x^k / k!.
func series(x *big.Float) *big.Float {
	prec := x.Prec()
	sum, term := bigOf(1, prec), bigOf(1, prec)
	for k := 1.0; term.Sign() != 0 && term.MantExp(nil) > -int(prec)-10; k++ {
		term.Mul(term, x)
		term.Quo(term, bigOf(k, prec))
		sum.Add(sum, term)
	}
	return sum
}

// exponential is e to the whole part of x, times the series of the rest.
func exponential(x *big.Float) *big.Float {
	prec := x.Prec()
	n, _ := x.Int64()
	y := series(new(big.Float).SetPrec(prec).Sub(x, bigOf(float64(n), prec)))
	if n == 0 {
		return y
	}
	power := series(bigOf(1, prec))
	if n < 0 {
		n, power = -n, new(big.Float).SetPrec(prec).Quo(bigOf(1, prec), power)
	}
	for ; n > 0; n >>= 1 {
		if n&1 == 1 {
			y.Mul(y, power)
		}
		power.Mul(power, power)
	}
	return y
}

// logarithm is found by Newton's way: y becomes y + x / e^y - 1.
func logarithm(x *big.Float) *big.Float {
	prec := x.Prec()
	m := new(big.Float)
	exp := x.MantExp(m)
	f, _ := m.Float64()
	y := bigOf(math.Log(f)+float64(exp)*math.Ln2, prec)
	for right := uint(20); right < 2*prec; right *= 2 {
		step := new(big.Float).SetPrec(prec).Quo(x, exponential(y))
		y.Add(y, step.Sub(step, bigOf(1, prec)))
	}
	return y
}

// needs tells with how many bits the reference reckons; half of them are right at the least. Next to 0 tanh and sigmoid are told from floats by the cube of x alone, and farther out by e^-2x.
func needs(op int, x float64) uint {
	_, exp := math.Frexp(x)
	bits := 320.0
	switch op {
	case api.OpExp, api.OpTanh, api.OpSigmoid:
		bits += 6 * math.Max(0, -float64(exp))
	}
	if op != api.OpLog {
		bits += 7 * math.Abs(x)
	}
	return uint(bits)
}

// realValue tells a real value by P401's words.
func realValue(op int, x float64) *big.Float {
	prec := needs(op, x)
	one, y := bigOf(1, prec), bigOf(x, prec)
	if op == api.OpLog {
		return logarithm(y)
	}
	up := exponential(y)
	down := exponential(new(big.Float).SetPrec(prec).Neg(y))
	switch op {
	case api.OpExp:
		return up
	case api.OpTanh:
		return y.Quo(new(big.Float).Sub(up, down), new(big.Float).Add(up, down))
	case api.OpSigmoid:
		return y.Quo(one, new(big.Float).Add(one, down))
	}
	return logarithm(one.Add(one, up))
}

// answer is what the five calls and Around must tell: the float nearest to a value, and those to both sides.
type answer struct{ near, lo, hi int }

// rounded rounds a value to a width in the three ways.
func rounded(v *big.Float, w int) answer {
	var f float64
	var side big.Accuracy
	if w == 32 {
		g, a := v.Float32()
		f, side = float64(g), a
	} else {
		f, side = v.Float64()
	}
	lo, hi := f, f
	switch side {
	case big.Above:
		lo = beside(f, math.Inf(-1), w)
	case big.Below:
		hi = beside(f, math.Inf(1), w)
	}
	return answer{ofWidth(f+0, w), ofWidth(lo+0, w), ofWidth(hi+0, w)}
}

// floats tells the values that are floats.
func floats(op int, x float64) (float64, bool) {
	switch {
	case op == api.OpExp && x == 0:
		return 1, true
	case op == api.OpLog && x == 1, op == api.OpTanh && x == 0:
		return 0, true
	case op == api.OpSigmoid && x == 0:
		return 0.5, true
	}
	return 0, false
}

// wanted tells what must be answered of a number, at most some thousands great, that the operation has a value of. The value is taken a little less and a little more: if that turns an answer, the reference is too coarse.
func wanted(t *testing.T, op int, x float64, w int) answer {
	t.Helper()
	if f, ok := floats(op, x); ok {
		b := ofWidth(f, w)
		return answer{b, b, b}
	}
	v := realValue(op, x)
	off := new(big.Float).SetMantExp(v, -int(v.Prec()/2))
	a := rounded(new(big.Float).Sub(v, off), w)
	if b := rounded(new(big.Float).Add(v, off), w); a != b {
		t.Fatalf("the reference is too coarse: op %d of %v, width %d", op, x, w)
	}
	return a
}

// held holds what is answered of a number against the reference.
func held(t *testing.T, c call, x float64, w int) {
	t.Helper()
	b := ofWidth(x, w)
	want := wanted(t, c.op, x, w)
	if got, e := c.f(b, w); got != want.near || e != api.OK {
		t.Errorf("P401: %s(%v), width %d: %#x, %v; want %#x", c.name, x, w, got, e, want.near)
	}
	if got, e := elem.Around(c.op, b, w); got != (api.Span{Lo: want.lo, Hi: want.hi}) || e != api.OK {
		t.Errorf("P403: Around %s(%v), width %d: %#x, %v; want %#x, %#x", c.name, x, w, got, e, want.lo, want.hi)
	}
}

// some is a float of a width, of any size that the reference can take, of any sign.
func some(r *rand.Rand, w int) float64 {
	x := r.NormFloat64() * 4
	switch r.Intn(5) {
	case 0:
		x = (r.Float64() - 0.5) * 4 * math.Log(math.Ldexp(1, map[int]int{32: 75, 64: 540}[w]))
	case 1:
		x = math.Ldexp(r.Float64()-0.5, -r.Intn(80))
	case 2:
		x = 1 + math.Ldexp(r.Float64()-0.5, -r.Intn(50))
	}
	return valueOf(ofWidth(x, w), w)
}

// has tells whether an operation has a value of a number.
func has(op int, x float64) bool { return op != api.OpLog || x > 0 }
