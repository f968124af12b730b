package start_test

import (
	"math"
	"math/big"
	"slices"
	"testing"

	"pupil/api"
	"pupil/start"
)

// The reference reckons the chapter's words in fractions, and rounds them at the end; its words it mixes itself.

const (
	first  = 0xBF58476D1CE4E5B9
	second = 0x94D049BB133111EB
	stride = 0x9E3779B97F4A7C15
	stir   = 0x632BE59BD9B4E019
	minus  = -1 << 63 // the bits of -0
)

var widths = []int{32, 64}

var kinds = []int{api.InitZero, api.InitConst, api.InitUniform, api.InitGlorot, api.InitHe, api.InitNormal}

// places are ints that a seed or a stream may be.
var places = []int{0, 1, -1, 7, math.MaxInt, math.MinInt, 1 << 40, -stir >> 1}

func bitsOf(f float64) int { return int(math.Float64bits(f)) }

func mix(z uint64) uint64 {
	z = (z ^ z>>30) * first
	z = (z ^ z>>27) * second
	return z ^ z>>31
}

// word tells the word at a place of a stream.
func word(seed, stream, at int) uint64 {
	key := mix(uint64(seed) ^ mix(uint64(stream)+stir))
	return mix(key + uint64(at+1)*stride)
}

// unfolded undoes z ^ z>>shift.
func unfolded(z uint64, shift int) uint64 {
	x := z
	for range 64 / shift {
		x = z ^ x>>shift
	}
	return x
}

// inverse tells what an odd number times is 1: each step has twice as many bits right.
func inverse(x uint64) uint64 {
	y := x
	for range 6 {
		y *= 2 - x*y
	}
	return y
}

// unmixed undoes mix.
func unmixed(z uint64) uint64 {
	z = unfolded(z, 31) * inverse(second)
	z = unfolded(z, 27) * inverse(first)
	return unfolded(z, 30)
}

// seedOf tells the seed with which a stream's first u is so many 2^53rd parts.
func seedOf(parts uint64, stream int) int {
	key := unmixed(parts<<11) - stride
	return int(unmixed(key) ^ mix(uint64(stream)+stir))
}

func whole(n int) *big.Rat { return new(big.Rat).SetInt64(int64(n)) }

func sum(x, y *big.Rat) *big.Rat { return new(big.Rat).Add(x, y) }

func less(x, y *big.Rat) *big.Rat { return new(big.Rat).Sub(x, y) }

func product(x, y *big.Rat) *big.Rat { return new(big.Rat).Mul(x, y) }

// u tells the number that is taken at a place.
func u(seed, stream, at int) *big.Rat {
	return big.NewRat(int64(word(seed, stream, at)>>11), 1<<53)
}

// value tells what finite bits say.
func value(b, width int) *big.Rat {
	if width == 32 {
		return new(big.Rat).SetFloat64(float64(math.Float32frombits(uint32(b))))
	}
	return new(big.Rat).SetFloat64(math.Float64frombits(uint64(b)))
}

// rounded tells [x]; what rounds to 0 is 0.
func rounded(x *big.Rat, width int) int {
	if width == 32 {
		if f, _ := x.Float32(); f != 0 {
			return int(math.Float32bits(f))
		}
		return 0
	}
	if f, _ := x.Float64(); f != 0 {
		return bitsOf(f)
	}
	return 0
}

func infinite(b, width int) bool {
	if width == 32 {
		return b&math.MaxInt32 == api.Inf32
	}
	return b&math.MaxInt == api.Inf
}

// limit tells [√(6 / n)]: √(6 n 4^100) is a whole number, or a half more stands for what is behind that. Floats and the middles between them are whole numbers there once they are multiplied with n 2^100, so that none lies between the two.
func limit(n, width int) int {
	square := new(big.Int).Lsh(big.NewInt(int64(6*n)), 200)
	root := new(big.Int).Sqrt(square)
	twice := new(big.Int).Lsh(root, 1)
	if root.Mul(root, root).Cmp(square) != 0 {
		twice.Add(twice, big.NewInt(1))
	}
	return rounded(new(big.Rat).SetFrac(twice, new(big.Int).Lsh(big.NewInt(int64(n)), 101)), width)
}

// elements tells what the exact element at a place is.
func elements(x api.Init, seed, stream int) func(at int) *big.Rat {
	a, b := value(x.A, 64), value(x.B, 64)
	from := func(l int) func(at int) *big.Rat {
		return func(at int) *big.Rat {
			return product(less(product(whole(2), u(seed, stream, at)), whole(1)), value(l, x.Width))
		}
	}
	switch x.Kind {
	case api.InitConst:
		return func(int) *big.Rat { return a }
	case api.InitUniform:
		return func(at int) *big.Rat { return sum(a, product(less(b, a), u(seed, stream, at))) }
	case api.InitGlorot:
		return from(limit(x.Rows+x.Cols, x.Width))
	case api.InitHe:
		return from(limit(x.Rows, x.Width))
	case api.InitNormal:
		return func(at int) *big.Rat {
			twelve := new(big.Rat)
			for i := range 12 {
				twelve.Add(twelve, u(seed, stream, 12*at+i))
			}
			return product(a, less(twelve, whole(6)))
		}
	}
	return func(int) *big.Rat { return new(big.Rat) }
}

// refusalOf tells what is said of a number.
func refusalOf(b int, used bool) api.Errno {
	f := math.Float64frombits(uint64(b))
	switch {
	case used && math.IsNaN(f):
		return api.ErrNaN
	case used && math.IsInf(f, 0):
		return api.ErrInf
	case !used && b != 0:
		return api.ErrArg
	}
	return api.OK
}

// refusal tells the error ahead of the elements: the first of the chapter's row.
func refusal(x api.Init) api.Errno {
	tooMany := new(big.Int).Mul(big.NewInt(int64(x.Rows)), big.NewInt(int64(x.Cols))).Cmp(big.NewInt(4096)) > 0
	usesA := x.Kind == api.InitConst || x.Kind == api.InitUniform || x.Kind == api.InitNormal
	usesB := x.Kind == api.InitUniform
	switch {
	case !slices.Contains(kinds, x.Kind):
		return api.ErrRule
	case !slices.Contains(widths, x.Width):
		return api.ErrWidth
	case x.Rows < 1 || x.Cols < 1:
		return api.ErrShape
	case tooMany:
		return api.ErrLong
	case refusalOf(x.A, usesA) != api.OK:
		return refusalOf(x.A, usesA)
	case refusalOf(x.B, usesB) != api.OK:
		return refusalOf(x.B, usesB)
	case usesB && math.Float64frombits(uint64(x.B)) < math.Float64frombits(uint64(x.A)):
		return api.ErrArg
	}
	return api.OK
}

// made is Make by the chapter's words.
func made(x api.Init, seed, stream int) (api.Matrix, api.Errno) {
	if e := refusal(x); e != api.OK {
		return api.Matrix{}, e
	}
	m, element := api.Matrix{Rows: x.Rows, Cols: x.Cols, Width: x.Width}, elements(x, seed, stream)
	for row := range x.Rows {
		for col := range x.Cols {
			b := rounded(element(row*x.Cols+col), x.Width)
			if infinite(b, x.Width) {
				return api.Matrix{}, api.ErrInf
			}
			m.Bits = append(m.Bits, b)
		}
	}
	return m, api.OK
}

// same tells whether two matrices are the same bits.
func same(a, b api.Matrix) bool {
	return a.Rows == b.Rows && a.Cols == b.Cols && a.Width == b.Width && slices.Equal(a.Bits, b.Bits)
}

// held holds Make against the reference, and tells its error.
func held(t *testing.T, x api.Init, seed, stream int) api.Errno {
	t.Helper()
	got, e := start.Make(x, seed, stream)
	want, f := made(x, seed, stream)
	if e != f || !same(got, want) {
		t.Errorf("Make(%+v, %d, %d): %v, %v; want %v, %v", x, seed, stream, got, e, want, f)
	}
	return e
}

// must is a Make that is not refused.
func must(t *testing.T, x api.Init, seed, stream int) api.Matrix {
	t.Helper()
	m, e := start.Make(x, seed, stream)
	if e != api.OK {
		t.Fatalf("Make(%+v, %d, %d): %v", x, seed, stream, e)
	}
	return m
}
