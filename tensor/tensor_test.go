package tensor_test

import (
	"math"
	"math/rand"
	"reflect"
	"slices"
	"testing"

	"pupil/api"
	"pupil/tensor"
)

// ends has ints about the least, the greatest, 0, and those whose products go round.
var ends = []int{math.MinInt, math.MinInt + 1, -1 << 32, -4097, -4096, -2, -1, 0, 1, 2, 3, 4, 5, 6, 7, 4095, 4096, 4097, 1 << 31, 1<<31 + 1, 1 << 32, 1<<32 + 1, 1 << 61, 1 << 62, 1<<62 + 1, 1<<62 + 3, math.MaxInt/3 + 1, math.MaxInt - 1, math.MaxInt}

var noWidths = []int{0, 1, 8, 16, 31, 33, 63, 65, 96, 128, -32, -64, 1<<32 | 32, 1<<32 | 64, math.MinInt, math.MaxInt}

// nones has patterns that are no number, of each width.
func nones(width int) []int {
	if width == 32 {
		return []int{0x7FC00001, 0x7FC00000, 0x7F800001, 0x7FBFFFFF, 0x7FFFFFFF, 0xFF800001, 0xFFC00000, 0xFFC00001, 0xFFFFFFFF}
	}
	return []int{0x7FF8000000000001, 0x7FF8000000000000, 0x7FF0000000000001, 0x7FF7FFFFFFFFFFFF, math.MaxInt, -1, -0x000FFFFFFFFFFFFF, -0x0008000000000000, -0x0007FFFFFFFFFFFF}
}

// others has patterns that are a number, or infinite: noughts, the least, the greatest, those about 1, infinities.
func others(width int) []int {
	if width == 32 {
		return []int{0, 1 << 31, 1, 1<<31 | 1, 0x007FFFFF, 0x00800000, 0x3F800000, 0x3F800001, 0xBF800000, 0x7F7FFFFF, 0xFF7FFFFF, 0x7F800000, 0xFF800000}
	}
	return []int{0, math.MinInt, 1, math.MinInt + 1, 0x000FFFFFFFFFFFFF, 0x0010000000000000, 0x3FF0000000000000, 0x3FF0000000000001, -0x4010000000000000, 0x7FEFFFFFFFFFFFFF, -0x0010000000000001, 0x7FF0000000000000, -0x0010000000000000}
}

// odd makes a matrix of both kinds of patterns, mixed by a seed, with some more.
func odd(rows, cols, width, seed int) api.Matrix {
	r := rand.New(rand.NewSource(int64(seed)))
	all := append(nones(width), others(width)...)
	m := api.Matrix{Rows: rows, Cols: cols, Width: width}
	for range rows * cols {
		b := all[r.Intn(len(all))]
		if r.Intn(2) == 0 {
			b = int(r.Uint64() >> (64 - width))
		}
		m.Bits = append(m.Bits, b)
	}
	return m
}

// counted makes a matrix whose elements are all unlike: 0, 1, .. as bits.
func counted(rows, cols, width int) api.Matrix {
	m := api.Matrix{Rows: rows, Cols: cols, Width: width}
	for i := range rows * cols {
		m.Bits = append(m.Bits, i)
	}
	return m
}

// shapes has the small ones, those of one row and of one column, and those of as many elements as there may be.
func shapes() [][2]int {
	list := [][2]int{{1, 4096}, {4096, 1}, {64, 64}, {2, 2048}, {1365, 3}}
	for r := 1; r <= 4; r++ {
		for c := 1; c <= 6; c++ {
			list = append(list, [2]int{r, c})
		}
	}
	return list
}

// matrices tells matrices of all these shapes, of both widths.
func matrices() []api.Matrix {
	var list []api.Matrix
	for _, s := range shapes() {
		for _, width := range []int{32, 64} {
			list = append(list, counted(s[0], s[1], width), odd(s[0], s[1], width, len(list)))
		}
	}
	return list
}

// wrong is a matrix that is not in form, and what Check says of it.
type wrong struct {
	m    api.Matrix
	want api.Errno
}

// wrongs tells matrices that are not in form; where two things are wrong, the first error is wanted.
func wrongs() []wrong {
	list := []wrong{{api.Matrix{}, api.ErrWidth}}
	add := func(want api.Errno, rows, cols, width int, bits ...int) {
		list = append(list, wrong{api.Matrix{Rows: rows, Cols: cols, Width: width, Bits: bits}, want})
	}
	for _, width := range noWidths {
		add(api.ErrWidth, 1, 1, width, 0)
		add(api.ErrWidth, 0, -1, width, 1<<40)
		add(api.ErrWidth, math.MaxInt, math.MaxInt, width)
	}
	for _, width := range []int{32, 64} {
		for _, n := range []int{0, -1, -4096, math.MinInt, math.MinInt + 1} {
			add(api.ErrShape, n, 1, width)
			add(api.ErrShape, 1, n, width, 0)
			add(api.ErrShape, n, math.MaxInt, width, 1<<40)
			add(api.ErrShape, 1<<32, n, width, -1)
			add(api.ErrShape, n, n, width, 0)
		}
		add(api.ErrLong, 4097, 1, width, make([]int, 4097)...)
		add(api.ErrLong, 1, 4097, width, make([]int, 4097)...)
		add(api.ErrLong, 65, 64, width, make([]int, 65*64)...)
		add(api.ErrLong, 2, 2049, width, slices.Repeat([]int{1 << 40}, 4098)...)
		add(api.ErrLong, 5, 5000, width)
		// The products go round: to 0, to 1, to 4, to less than 0.
		add(api.ErrLong, 1<<32, 1<<32, width)
		add(api.ErrLong, math.MaxInt, math.MaxInt, width, 0)
		add(api.ErrLong, 1<<62+1, 4, width, 0, 0, 0, 0)
		add(api.ErrLong, 4, 1<<62+1, width, 0, 0, 0, 0)
		add(api.ErrLong, 2, 1<<62, width)
		add(api.ErrLong, 1, math.MaxInt, width, 1<<40)
		add(api.ErrLong, math.MaxInt, 1, width)
		add(api.ErrShape, 1, 1, width)
		add(api.ErrShape, 1, 1, width, 0, 0)
		add(api.ErrShape, 2, 2, width, 0, 0, 1<<40)
		add(api.ErrShape, 2, 2, width, 0, -1, 0, 0, 0)
		add(api.ErrShape, 64, 64, width, make([]int, 4095)...)
		add(api.ErrShape, 64, 64, width, make([]int, 4097)...)
	}
	for _, b := range []int{-1, 1 << 32, 1<<32 + 1, math.MinInt, math.MaxInt, -1 << 31, -1 << 32, 1 << 40} {
		add(api.ErrBits, 1, 1, 32, b)
		add(api.ErrBits, 2, 2, 32, b, 0, 0, 0)
		add(api.ErrBits, 2, 2, 32, 0, 0, 0, b)
		add(api.ErrBits, 1, 2, 32, 0x7FC00000, b)
	}
	return list
}

// answered tells whether a call has answered what is wanted.
func answered(t *testing.T, m api.Matrix, e api.Errno, want api.Matrix, call ...any) {
	t.Helper()
	if e != api.OK || !reflect.DeepEqual(m, want) {
		t.Errorf("%v: %v, %v; want %v", call, m, e, want)
	}
}

// refused tells whether a call has answered an error, and zeros beside it.
func refused(t *testing.T, m api.Matrix, e, want api.Errno, call ...any) {
	t.Helper()
	if e != want || m.Rows != 0 || m.Cols != 0 || m.Width != 0 || len(m.Bits) != 0 {
		t.Errorf("%v: %v, %v; want zeros, %v", call, m, e, want)
	}
}

// compared holds what a call has answered against what the reference has.
func compared(t *testing.T, m api.Matrix, e api.Errno, want api.Matrix, err api.Errno, call ...any) {
	t.Helper()
	if err != api.OK {
		refused(t, m, e, err, call...)
		return
	}
	answered(t, m, e, want, call...)
}

func TestP701Check(t *testing.T) {
	for _, x := range wrongs() {
		if checkOf(x.m) != x.want {
			t.Fatalf("the reference says %v of %v", checkOf(x.m), x.m)
		}
		if e := tensor.Check(x.m); e != x.want {
			t.Errorf("Check(%d by %d, width %d, %d bits): %v, want %v", x.m.Rows, x.m.Cols, x.m.Width, len(x.m.Bits), e, x.want)
		}
	}
	for _, m := range matrices() {
		if e := tensor.Check(m); e != api.OK {
			t.Errorf("Check(%d by %d, width %d): %v", m.Rows, m.Cols, m.Width, e)
		}
	}
}

// TestP701Bits: of width 32 those from 0 to 2^32 - 1, of width 64 all, at any place.
func TestP701Bits(t *testing.T) {
	for _, b := range []int{0, 1, 1<<31 - 1, 1 << 31, 1<<32 - 2, 1<<32 - 1, 1 << 32, -1, -1 << 31, math.MaxInt, math.MinInt} {
		for at := range 6 {
			for _, width := range []int{32, 64} {
				m := counted(2, 3, width)
				m.Bits[at] = b
				want := api.OK
				if width == 32 && (b < 0 || b >= 1<<32) {
					want = api.ErrBits
				}
				if e := tensor.Check(m); e != want {
					t.Errorf("Check with %#x at %d, width %d: %v, want %v", b, at, width, e, want)
				}
			}
		}
	}
}

// TestP701Ends: rows and columns at the ends of the ints, with as many bits as their product has when it goes round.
func TestP701Ends(t *testing.T) {
	for _, rows := range ends {
		for _, cols := range ends {
			for _, width := range []int{32, 64, 16} {
				m := api.Matrix{Rows: rows, Cols: cols, Width: width}
				if n := rows * cols; n > 0 && n <= 5000 {
					m.Bits = make([]int, n)
				}
				if got, want := tensor.Check(m), checkOf(m); got != want {
					t.Errorf("Check(%d by %d, width %d, %d bits): %v, want %v", rows, cols, width, len(m.Bits), got, want)
				}
			}
		}
	}
}

func TestP702Finite(t *testing.T) {
	for _, x := range wrongs() {
		if at, e := tensor.Finite(x.m); at != 0 || e != x.want {
			t.Errorf("Finite(%v): %d, %v; want 0, %v", x.m, at, e, x.want)
		}
	}
	for _, width := range []int{32, 64} {
		bad := nones(width)
		for _, b := range others(width) {
			if isInfinite(b, width) {
				bad = append(bad, b)
				continue
			}
			m := api.Matrix{Rows: 1, Cols: 2, Width: width, Bits: []int{b, b}}
			if at, e := tensor.Finite(m); at != 0 || e != api.OK {
				t.Errorf("Finite(%v): %d, %v", m, at, e)
			}
		}
		for _, b := range bad {
			firstAt(t, b, width, bad)
		}
	}
	for _, m := range matrices() {
		want, err := 0, api.OK
		for i, b := range slices.Backward(m.Bits) {
			if isNone(b, m.Width) {
				want, err = i, api.ErrNaN
			}
			if isInfinite(b, m.Width) {
				want, err = i, api.ErrInf
			}
		}
		if at, e := tensor.Finite(m); at != want || e != err {
			t.Errorf("Finite(%d by %d, width %d): %d, %v; want %d, %v", m.Rows, m.Cols, m.Width, at, e, want, err)
		}
	}
}

// firstAt puts what is not finite at each place of a matrix, with another one behind it.
func firstAt(t *testing.T, b, width int, bad []int) {
	t.Helper()
	want := api.ErrNaN
	if isInfinite(b, width) {
		want = api.ErrInf
	}
	for at := range 6 {
		for _, next := range bad {
			m := counted(2, 3, width)
			m.Bits[5] = next
			m.Bits[at] = b
			if got, e := tensor.Finite(m); got != at || e != want {
				t.Errorf("Finite(%v): %d, %v; want %d, %v", m, got, e, at, want)
			}
		}
	}
}

func TestP703Zero(t *testing.T) {
	for _, rows := range ends {
		for _, cols := range ends {
			for _, width := range append([]int{32, 64}, noWidths...) {
				m, e := tensor.Zero(rows, cols, width)
				switch {
				case width != 32 && width != 64:
					refused(t, m, e, api.ErrWidth, "Zero", rows, cols, width)
				case rows < 1 || cols < 1:
					refused(t, m, e, api.ErrShape, "Zero", rows, cols, width)
				case tooMany(rows, cols):
					refused(t, m, e, api.ErrLong, "Zero", rows, cols, width)
				default:
					answered(t, m, e, api.Matrix{Rows: rows, Cols: cols, Width: width, Bits: make([]int, rows*cols)}, "Zero", rows, cols, width)
				}
			}
		}
	}
	for _, s := range [][2]int{{64, 64}, {2, 2048}, {1365, 3}} {
		m, e := tensor.Zero(s[0], s[1], 32)
		answered(t, m, e, api.Matrix{Rows: s[0], Cols: s[1], Width: 32, Bits: make([]int, s[0]*s[1])}, "Zero", s)
	}
	m, e := tensor.Zero(2, 2049, 64)
	refused(t, m, e, api.ErrLong, "Zero", 2, 2049)
}

func TestP704At(t *testing.T) {
	for _, x := range wrongs() {
		if b, e := tensor.At(x.m, -1, 0); b != 0 || e != x.want {
			t.Errorf("At(%v): %d, %v; want 0, %v", x.m, b, e, x.want)
		}
	}
	for _, m := range matrices() {
		for _, row := range append(ends, m.Rows-1, m.Rows) {
			for _, col := range append(ends, m.Cols-1, m.Cols) {
				want, err := 0, api.ErrIndex
				if row >= 0 && row < m.Rows && col >= 0 && col < m.Cols {
					want, err = listed(m)[row][col], api.OK
				}
				if b, e := tensor.At(m, row, col); b != want || e != err {
					t.Errorf("At(%d by %d, %d, %d): %#x, %v; want %#x, %v", m.Rows, m.Cols, row, col, b, e, want, err)
				}
			}
		}
	}
	for _, width := range []int{32, 64} {
		for _, b := range nones(width) {
			m := api.Matrix{Rows: 1, Cols: 1, Width: width, Bits: []int{b}}
			if got, e := tensor.At(m, 0, 0); got != plain(b, width) || e != api.OK {
				t.Errorf("At(%#x): %#x, %v", b, got, e)
			}
		}
	}
}

func TestP710Convert(t *testing.T) {
	for _, x := range wrongs() {
		for _, width := range []int{32, 64, 16} {
			m, e := tensor.Convert(x.m, width)
			refused(t, m, e, x.want, "Convert", x.m, width)
		}
	}
	for _, m := range matrices() {
		for _, width := range noWidths {
			got, e := tensor.Convert(m, width)
			refused(t, got, e, api.ErrWidth, "Convert", m, width)
		}
		for _, width := range []int{32, 64} {
			want := api.Matrix{Rows: m.Rows, Cols: m.Cols, Width: width}
			for _, b := range m.Bits {
				want.Bits = append(want.Bits, convertOf(b, m.Width, width))
			}
			got, e := tensor.Convert(m, width)
			answered(t, got, e, want, "Convert", m, width)
		}
	}
}

// TestP710Narrow: ties, what is beyond, what is too small, and their neighbours, with both signs.
func TestP710Narrow(t *testing.T) {
	for _, x := range []struct {
		f    float64
		want int
	}{
		{0, 0}, {1, 0x3F800000}, {0.1, 0x3DCCCCCD}, {1.0 / 3, 0x3EAAAAAB},
		{1 + 0x1p-24, 0x3F800000}, {1 + 0x1p-24 + 0x1p-52, 0x3F800001}, {1 + 0x3p-24, 0x3F800002}, {1 + 0x3p-24 - 0x1p-52, 0x3F800001},
		{2 - 0x1p-24, 0x40000000}, {2 - 0x1p-24 - 0x1p-52, 0x3FFFFFFF},
		{0x1.fffffep127, 0x7F7FFFFF}, {0x1.fffffefffffffp127, 0x7F7FFFFF}, {0x1.ffffffp127, 0x7F800000}, {0x1p128, 0x7F800000}, {0x1p200, 0x7F800000}, {math.MaxFloat64, 0x7F800000}, {math.Inf(1), 0x7F800000},
		{0x1p-126, 0x00800000}, {0x1p-126 - 0x1p-150, 0x00800000}, {0x1p-126 - 0x1p-149, 0x007FFFFF},
		{0x1p-149, 1}, {0x1.8p-149, 2}, {0x1.7ffffffffffffp-149, 1}, {0x1p-150, 0}, {0x1.0000000000001p-150, 1}, {0x1p-151, 0}, {0x1p-1022, 0}, {0x1p-1074, 0},
	} {
		m, e := tensor.Convert(of(1, 2, x.f, math.Copysign(x.f, -1)), 32)
		answered(t, m, e, api.Matrix{Rows: 1, Cols: 2, Width: 32, Bits: []int{x.want, x.want | 1<<31}}, "Convert", x.f)
	}
}

// TestP710Wide: each binary32 is widened as it is, and comes back.
func TestP710Wide(t *testing.T) {
	for _, x := range []struct{ b, want int }{
		{0, 0}, {1 << 31, math.MinInt}, {1, 0x36A0000000000000}, {0x007FFFFF, 0x380FFFFFC0000000}, {0x00800000, 0x3810000000000000}, {0x3F800000, 0x3FF0000000000000}, {0x3DCCCCCD, 0x3FB99999A0000000}, {0x7F7FFFFF, 0x47EFFFFFE0000000}, {0x7F800000, 0x7FF0000000000000}, {0xFF800000, -0x0010000000000000}, {0x7F800001, 0x7FF8000000000001}, {0xFFFFFFFF, 0x7FF8000000000001},
	} {
		narrow := api.Matrix{Rows: 1, Cols: 1, Width: 32, Bits: []int{x.b}}
		wide, e := tensor.Convert(narrow, 64)
		answered(t, wide, e, api.Matrix{Rows: 1, Cols: 1, Width: 64, Bits: []int{x.want}}, "Convert", x.b)
		back, e := tensor.Convert(wide, 32)
		if e != api.OK || !tensor.Same(back, narrow) {
			t.Errorf("%#x comes back as %v, %v", x.b, back, e)
		}
	}
}

func TestP711Same(t *testing.T) {
	for _, x := range wrongs() {
		if tensor.Same(x.m, x.m) || tensor.Same(x.m, of(1, 1, 0)) || tensor.Same(of(1, 1, 0), x.m) {
			t.Errorf("Same of %v, which is not in form", x.m)
		}
	}
	list := matrices()
	for i, a := range list {
		for j, b := range list {
			if got, want := tensor.Same(a, b), sameOf(a, b); got != want || i == j && !got {
				t.Errorf("Same(%v, %v): %v", a, b, got)
			}
		}
	}
	for _, width := range []int{32, 64} {
		all := append(nones(width), others(width)...)
		for _, x := range all {
			for _, y := range all {
				for at := range 4 {
					a, b := counted(2, 2, width), counted(2, 2, width)
					a.Bits[at], b.Bits[at] = x, y
					if got, want := tensor.Same(a, b), x == y || isNone(x, width) && isNone(y, width); got != want {
						t.Errorf("Same(%v, %v): %v", a, b, got)
					}
				}
			}
		}
	}
}

// TestP711Shape: the same bits in another shape, and in another width, are another matrix.
func TestP711Shape(t *testing.T) {
	six := counted(2, 3, 32)
	for _, other := range []api.Matrix{counted(3, 2, 32), counted(1, 6, 32), counted(6, 1, 32), counted(2, 3, 64), counted(2, 2, 32)} {
		if tensor.Same(six, other) || tensor.Same(other, six) {
			t.Errorf("Same of %v and %v", six, other)
		}
	}
	if !tensor.Same(six, counted(2, 3, 32)) {
		t.Error("Same of two alike is false")
	}
}

// TestP701Fits: in form and of a shape, in the order of the errors.
func TestP701Fits(t *testing.T) {
	m := counted(2, 3, 64)
	for _, x := range []struct {
		m    api.Matrix
		s    api.Shape
		want api.Errno
	}{
		{m, api.Shape{Rows: 2, Cols: 3, Width: 64}, api.OK},
		{m, api.Shape{Rows: 2, Cols: 3, Width: 32}, api.ErrWidth},
		{m, api.Shape{Rows: 3, Cols: 2, Width: 32}, api.ErrWidth},
		{m, api.Shape{Rows: 3, Cols: 3, Width: 64}, api.ErrShape},
		{m, api.Shape{Rows: 2, Cols: 2, Width: 64}, api.ErrShape},
		{m, api.Shape{}, api.ErrWidth},
		{api.Matrix{}, api.Shape{}, api.ErrWidth},
		{api.Matrix{Rows: 1, Cols: 1, Width: 32, Bits: []int{-1}}, api.Shape{Rows: 2, Cols: 1, Width: 64}, api.ErrBits},
		{api.Matrix{Rows: 4097, Cols: 1, Width: 64}, api.Shape{Rows: 4097, Cols: 1, Width: 64}, api.ErrLong},
	} {
		if e := tensor.Fits(x.m, x.s); e != x.want {
			t.Errorf("Fits(%v, %v): %v, want %v", x.m, x.s, e, x.want)
		}
	}
}
