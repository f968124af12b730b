package data_test

import (
	"math"
	"math/big"
	"math/rand"
	"slices"
	"testing"

	"pupil/api"
	"pupil/data"
)

// The reference reads the chapter's words: finite floats are whole numbers of the least one of their width, which are added up and squared as such; single operations are reckoned in big floats that have all of the result, or more of it than can matter.

// The ends of the ints.
const (
	lowest  = math.MinInt
	highest = math.MaxInt
)

var widths = []int{32, 64}

// pattern tells a number's bits of a width.
func pattern(f float64, width int) int {
	if width == 32 {
		return int(math.Float32bits(float32(f)))
	}
	return int(math.Float64bits(f))
}

// value tells what bits say.
func value(b, width int) float64 {
	if width == 32 {
		return float64(math.Float32frombits(uint32(b)))
	}
	return math.Float64frombits(uint64(b))
}

// minusOf tells the bits of -0, infinityOf those of infinity, greatestOf those of the greatest float.
func minusOf(width int) int { return pattern(math.Copysign(0, -1), width) }

func infinityOf(width int) int { return pattern(math.Inf(1), width) }

func greatestOf(width int) int { return infinityOf(width) - 1 }

// negative turns the sign.
func negative(b, width int) int { return b ^ minusOf(width) }

// notFinite are patterns that are none, with what is said of them.
func notFinite(width int) map[int]api.Errno {
	inf := infinityOf(width)
	return map[int]api.Errno{
		inf: api.ErrInf, negative(inf, width): api.ErrInf,
		inf + 1: api.ErrNaN, negative(inf+1, width): api.ErrNaN, pattern(math.NaN(), width): api.ErrNaN, map[int]int{32: api.NaN32, 64: api.NaN}[width]: api.ErrNaN,
	}
}

// refusal tells what is said of an element; OK: it is finite.
func refusal(b, width int) api.Errno {
	switch f := value(b, width); {
	case math.IsNaN(f):
		return api.ErrNaN
	case math.IsInf(f, 0):
		return api.ErrInf
	}
	return api.OK
}

// matrix makes one of bits, vals one of numbers.
func matrix(rows, cols, width int, bits ...int) api.Matrix {
	return api.Matrix{Rows: rows, Cols: cols, Width: width, Bits: bits}
}

func vals(rows, cols, width int, numbers ...float64) api.Matrix {
	m := matrix(rows, cols, width)
	for _, f := range numbers {
		m.Bits = append(m.Bits, pattern(f, width))
	}
	return m
}

// numbered makes one whose elements are all unlike.
func numbered(rows, cols, width, from int) api.Matrix {
	m := matrix(rows, cols, width)
	for i := range rows * cols {
		m.Bits = append(m.Bits, pattern(float64(from+i), width))
	}
	return m
}

// copied makes the same, in memory of its own.
func copied(m api.Matrix) api.Matrix {
	m.Bits = slices.Clone(m.Bits)
	return m
}

// with makes the same, with another element at a place.
func with(m api.Matrix, at, b int) api.Matrix {
	m = copied(m)
	m.Bits[at] = b
	return m
}

func same(a, b api.Matrix) bool {
	return a.Rows == b.Rows && a.Cols == b.Cols && a.Width == b.Width && slices.Equal(a.Bits, b.Bits)
}

func sameSet(a, b api.Set) bool { return same(a.X, b.X) && same(a.Y, b.Y) }

// zero tells whether a matrix is what stands beside an error.
func zero(m api.Matrix) bool { return m.Rows == 0 && m.Cols == 0 && m.Width == 0 && len(m.Bits) == 0 }

// misshapen is a matrix that is not in form, and why.
type misshapen struct {
	m api.Matrix
	e api.Errno
}

// misshapes are all ways to be none.
func misshapes() []misshapen {
	list := []misshapen{{api.Matrix{}, api.ErrWidth}, {matrix(1, 1, 32, -1), api.ErrBits}, {matrix(2, 1, 32, 0, 1<<32), api.ErrBits}, {matrix(1, 2, 32, lowest, api.Inf32), api.ErrBits}}
	for _, w := range []int{0, 16, 31, 33, 63, 65, -32, -64, 128, lowest, highest} {
		list = append(list, misshapen{matrix(1, 1, w, 0), api.ErrWidth}, misshapen{matrix(0, -1, w), api.ErrWidth})
	}
	for _, w := range widths {
		for _, s := range [][2]int{{0, 1}, {1, 0}, {0, 0}, {-1, 1}, {1, -1}, {-1, -1}, {-2, -2}, {lowest, 1}, {1, lowest}, {lowest, lowest}, {lowest, 2}, {highest, 0}} {
			list = append(list, misshapen{matrix(s[0], s[1], w, 0), api.ErrShape})
		}
		for _, s := range [][2]int{{1, 4097}, {4097, 1}, {64, 65}, {highest, 1}, {1, highest}, {highest, highest}, {1 << 32, 1 << 32}, {1 << 62, 4}, {2, highest/2 + 1}} {
			list = append(list, misshapen{matrix(s[0], s[1], w, 0), api.ErrLong})
		}
		list = append(list, misshapen{matrix(1, 2, w, 0), api.ErrShape}, misshapen{matrix(1, 1, w, 0, 0), api.ErrShape}, misshapen{matrix(2, 2, w), api.ErrShape}, misshapen{matrix(2, 2, w, 0, 0, infinityOf(w)), api.ErrShape})
	}
	return list
}

// whole tells how many times the least float of its width goes into a finite float.
func whole(b, width int) *big.Int {
	last := map[int]int{32: -149, 64: -1074}[width]
	x := new(big.Float).SetPrec(3000).SetFloat64(value(b, width))
	n, _ := x.SetMantExp(x, -last).Int(nil)
	return n
}

// nearest tells the float that is nearest to what a big one says; what rounds to 0 is 0.
func nearest(x *big.Float, width int) int {
	b := signed(x, width)
	if b == minusOf(width) {
		return 0
	}
	return b
}

// signed tells the same, but what rounds to a nought keeps its sign.
func signed(x *big.Float, width int) int {
	if width == 32 {
		f, _ := x.Float32()
		return int(math.Float32bits(f))
	}
	f, _ := x.Float64()
	return int(math.Float64bits(f))
}

// sticky makes a big float of whole numbers' quotient, or of its root: more bits than floats and the middles between them have, and one behind these, if there is more. It is told in least floats.
func sticky(num, den *big.Int, width int, root bool) *big.Float {
	const enough = 6000
	left := new(big.Int)
	n, _ := new(big.Int).QuoRem(new(big.Int).Lsh(num, enough), den, left)
	more, shift := left.Sign() != 0, enough
	if root {
		square := n
		n = new(big.Int).Sqrt(square)
		more, shift = more || new(big.Int).Mul(n, n).Cmp(square) != 0, enough/2
	}
	neg := n.Sign() < 0
	n.Abs(n).Lsh(n, 1)
	if more {
		n.SetBit(n, 0, 1)
	}
	if neg {
		n.Neg(n)
	}
	last := map[int]int{32: -149, 64: -1074}[width]
	x := new(big.Float).SetPrec(uint(n.BitLen() + 1)).SetInt(n)
	return x.SetMantExp(x, last-shift-1)
}

// measured tells the mean and the deviation of a column. Of n wholes with the sum s each differs from the mean by (n x - s) / n.
func measured(column []int, width int) (mean, dev int) {
	n, s := big.NewInt(int64(len(column))), new(big.Int)
	for _, b := range column {
		s.Add(s, whole(b, width))
	}
	squares := new(big.Int)
	for _, b := range column {
		d := new(big.Int).Mul(n, whole(b, width))
		d.Sub(d, s)
		squares.Add(squares, d.Mul(d, d))
	}
	cube := new(big.Int).Exp(n, big.NewInt(3), nil)
	return nearest(sticky(s, n, width, false), width), nearest(sticky(squares, cube, width, true), width)
}

// measuredAll tells those of all columns.
func measuredAll(m api.Matrix) (mean, dev api.Matrix) {
	mean, dev = matrix(1, m.Cols, m.Width), matrix(1, m.Cols, m.Width)
	for c := range m.Cols {
		var column []int
		for r := range m.Rows {
			column = append(column, m.Bits[r*m.Cols+c])
		}
		x, y := measured(column, m.Width)
		mean.Bits, dev.Bits = append(mean.Bits, x), append(dev.Bits, y)
	}
	return mean, dev
}

// wantScale wants Scale to tell two lists of bits, of a matrix's width.
func wantScale(t *testing.T, m api.Matrix, mean, dev []int) {
	t.Helper()
	a, b, e := data.Scale(m)
	if !same(a, matrix(1, m.Cols, m.Width, mean...)) || !same(b, matrix(1, m.Cols, m.Width, dev...)) || e != api.OK {
		t.Errorf("Scale(%x): %x, %x, %v, want %x, %x", m, a, b, e, mean, dev)
	}
}

// heldScale holds Scale against the reference, and tells what both say.
func heldScale(t *testing.T, m api.Matrix) (mean, dev api.Matrix) {
	t.Helper()
	mean, dev = measuredAll(m)
	wantScale(t, m, mean.Bits, dev.Bits)
	return mean, dev
}

func large(b, width int) *big.Float {
	return new(big.Float).SetPrec(5000).SetFloat64(value(b, width))
}

// lessSingle is the single difference of finite floats, bySingle the single quotient of a float and a finite one other than a nought.
func lessSingle(a, b, width int) int {
	return signed(new(big.Float).SetPrec(5000).Sub(large(a, width), large(b, width)), width)
}

func bySingle(a, b, width int) int {
	if refusal(a, width) != api.OK {
		return pattern(value(a, width)/value(b, width), width)
	}
	return signed(new(big.Float).SetPrec(300).Quo(large(a, width), large(b, width)), width)
}

// scaledOne tells what becomes of an element.
func scaledOne(x, mean, dev, width int) int {
	moved := lessSingle(x, mean, width)
	if value(dev, width) == 0 {
		return moved
	}
	return bySingle(moved, dev, width)
}

// scaledAll is Scaled of what it does not refuse ahead.
func scaledAll(m, mean, dev api.Matrix) (api.Matrix, int, api.Errno) {
	made := matrix(m.Rows, m.Cols, m.Width)
	for r := range m.Rows {
		for c := range m.Cols {
			b := scaledOne(m.Bits[r*m.Cols+c], mean.Bits[c], dev.Bits[c], m.Width)
			if e := refusal(b, m.Width); e != api.OK {
				return api.Matrix{}, len(made.Bits), e
			}
			made.Bits = append(made.Bits, b)
		}
	}
	return made, 0, api.OK
}

// wantScaled wants Scaled to tell an answer.
func wantScaled(t *testing.T, m, mean, dev, want api.Matrix, at int, e api.Errno) {
	t.Helper()
	if got, place, f := data.Scaled(m, mean, dev); !same(got, want) || place != at || f != e {
		t.Errorf("Scaled(%x, %x, %x): %x, %d, %v, want %x, %d, %v", m, mean, dev, got, place, f, want, at, e)
	}
}

// heldScaled holds Scaled against the reference, and tells what both say.
func heldScaled(t *testing.T, m, mean, dev api.Matrix) (api.Matrix, int, api.Errno) {
	t.Helper()
	want, at, e := scaledAll(m, mean, dev)
	wantScaled(t, m, mean, dev, want, at, e)
	return want, at, e
}

// anyFloat tells bits of a finite float: ordinary ones, whole numbers, those at the ends, any pattern.
func anyFloat(r *rand.Rand, width int) int {
	great := greatestOf(width)
	b := 0
	switch r.Intn(6) {
	case 0:
		b = r.Intn(great + 1)
	case 1:
		b = r.Intn(1 << r.Intn(map[int]int{32: 24, 64: 53}[width]))
	case 2:
		b = []int{0, 1, 2, 3, great, great - 1, pattern(1, width), pattern(1, width) + 1, pattern(1, width) - 1, pattern(0.5, width)}[r.Intn(10)]
	case 3:
		b = pattern(float64(r.Intn(64)), width)
	default:
		b = pattern(math.Ldexp(1+r.Float64(), r.Intn(40)-20), width)
	}
	if r.Intn(2) == 0 {
		return negative(b, width)
	}
	return b
}

// near tells bits of ordinary floats alone.
func near(r *rand.Rand, width int) int { return pattern(r.NormFloat64()+3, width) }

// random makes a matrix of such floats.
func random(r *rand.Rand, rows, cols, width int, float func(*rand.Rand, int) int) api.Matrix {
	m := matrix(rows, cols, width)
	for range rows * cols {
		m.Bits = append(m.Bits, float(r, width))
	}
	return m
}
