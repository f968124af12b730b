package kernel_test

import (
	"math"
	"math/rand"
	"reflect"
	"testing"

	"pupil/api"
)

var (
	widths   = []int{32, 64}
	noWidths = []int{0, 1, 8, 16, 31, 33, 63, 65, 96, 128, -32, -64, 1<<32 | 32, 1<<32 | 64, math.MinInt, math.MaxInt}
)

// ends has ints about the least, the greatest, 0, MaxElems, and those whose products go round.
var ends = []int{math.MinInt, -1 << 32, -4096, -1, 0, 1, 2, 3, 4, 6, 64, 65, 4096, 4097, 1 << 32, 1<<62 + 1, math.MaxInt - 1, math.MaxInt}

// pairOps, oneOps, .. are the table's operations, by what they take.
var (
	pairOps = []int{api.OpAdd, api.OpSub, api.OpMul, api.OpDiv}
	elemOps = []int{api.OpExp, api.OpLog, api.OpTanh, api.OpSigmoid, api.OpSoftplus}
	eachOps = append([]int{api.OpNeg, api.OpRelu, api.OpAbs, api.OpSqrt}, elemOps...)
	manyOps = []int{api.OpSum, api.OpSumRows, api.OpSumCols, api.OpMean, api.OpGreatest, api.OpSoftmax, api.OpLogSoft}
	moveOps = []int{api.OpForm, api.OpCutCols, api.OpCutRows, api.OpWindow}
	glueOps = []int{api.OpGlueCols, api.OpGlueRows}
)

// ops tells all operations of the table.
func ops() []int {
	all := []int{api.OpProduct, api.OpTurn, api.OpWide, api.OpNarrow}
	for _, list := range [][]int{pairOps, eachOps, manyOps, moveOps, glueOps} {
		all = append(all, list...)
	}
	return all
}

// nones has patterns that are no number, of each width.
func nones(width int) []int {
	if width == 32 {
		return []int{0x7FC00001, 0x7FC00000, 0x7F800001, 0x7FBFFFFF, 0x7FFFFFFF, 0xFF800001, 0xFFC00000, 0xFFC00001, 0xFFFFFFFF}
	}
	return []int{0x7FF8000000000001, 0x7FF8000000000000, 0x7FF0000000000001, 0x7FF7FFFFFFFFFFFF, math.MaxInt, -1, -0x000FFFFFFFFFFFFF, -0x0008000000000000, -0x0007FFFFFFFFFFFF}
}

// edges has floats of a width: noughts, the least, the greatest, those about 1, powers far from each other, infinities.
func edges(width int) []float64 {
	list := []float64{0, 1, 2, 0.5, 3, 0.1, 700, 20, 0x1p-20, inf}
	if width == 32 {
		list = append(list, 0x1p-149, 0x1p-126, 0x1p-126-0x1p-149, 0x1.fffffep127, 1+0x1p-23, 0x1p24, 0x1p100, 0x1p-100)
	} else {
		list = append(list, 0x1p-1074, 0x1p-1022, 0x1p-1022-0x1p-1074, math.MaxFloat64, 1+0x1p-52, 0x1p53, 0x1p1000, 0x1p-1000)
	}
	for _, f := range list[:len(list):len(list)] {
		list = append(list, -f)
	}
	for i, f := range list {
		list[i] = narrowed(f, width)
	}
	return list
}

// small makes a matrix of small numbers with a few bits, mixed by a seed.
func small(rows, cols, width, seed int) api.Matrix {
	r := rand.New(rand.NewSource(int64(seed)))
	m := api.Matrix{Rows: rows, Cols: cols, Width: width}
	for range rows * cols {
		m.Bits = append(m.Bits, bitsOf(float64(r.Intn(2001)-1000)/64, width))
	}
	return m
}

// mixed makes a matrix of any finite floats.
func mixed(rows, cols, width, seed int) api.Matrix {
	r := rand.New(rand.NewSource(int64(seed)))
	m := api.Matrix{Rows: rows, Cols: cols, Width: width}
	for len(m.Bits) < rows*cols {
		b := int(r.Uint64() >> (64 - width))
		if f := valueOf(b, width); f-f == 0 {
			m.Bits = append(m.Bits, b)
		}
	}
	return m
}

// odd makes a matrix of edges, of infinities, of what is no number, and of any floats.
func odd(rows, cols, width, seed int) api.Matrix {
	r := rand.New(rand.NewSource(int64(seed)))
	edge, none := edges(width), nones(width)
	m := api.Matrix{Rows: rows, Cols: cols, Width: width}
	for range rows * cols {
		b := bitsOf(edge[r.Intn(len(edge))], width)
		switch r.Intn(8) {
		case 0:
			b = none[r.Intn(len(none))]
		case 1:
			b = int(r.Uint64() >> (64 - width))
		}
		m.Bits = append(m.Bits, b)
	}
	return m
}

// kinds are the ways to fill a matrix.
var kinds = []func(rows, cols, width, seed int) api.Matrix{small, mixed, odd}

// shapes has matrices of one element, of one row, of one column, and of others.
func shapes() [][2]int {
	return [][2]int{{1, 1}, {1, 2}, {2, 1}, {1, 7}, {7, 1}, {2, 3}, {3, 2}, {4, 4}}
}

// full has those of as many elements as there may be.
func full() [][2]int { return [][2]int{{64, 64}, {1, 4096}, {4096, 1}, {2, 2048}} }

// wrong is a matrix that is not in form, and what Check says of it.
type wrong struct {
	m    api.Matrix
	want api.Errno
}

// wrongs tells matrices that are not in form; where two things are wrong, the first error is wanted.
func wrongs() []wrong {
	list := []wrong{{api.Matrix{}, api.ErrWidth}}
	add := func(want api.Errno, rows, cols, width int, bits ...int) {
		list = append(list, wrong{api.Matrix{Rows: rows, Cols: cols, Width: width, Bits: bits}, want})
	}
	for _, width := range noWidths {
		add(api.ErrWidth, 1, 1, width, 0)
		add(api.ErrWidth, 0, -1, width, 1<<40)
		add(api.ErrWidth, math.MaxInt, math.MaxInt, width)
	}
	for _, width := range widths {
		for _, n := range []int{0, -1, -4096, math.MinInt} {
			add(api.ErrShape, n, 1, width)
			add(api.ErrShape, 1, n, width, 0)
			add(api.ErrShape, n, math.MaxInt, width, 1<<40)
			add(api.ErrShape, 1<<32, n, width, -1)
		}
		add(api.ErrLong, 4097, 1, width, make([]int, 4097)...)
		add(api.ErrLong, 65, 64, width, make([]int, 65*64)...)
		add(api.ErrLong, 1<<32, 1<<32, width)
		add(api.ErrLong, math.MaxInt, math.MaxInt, width, 0)
		add(api.ErrLong, 1<<62+1, 4, width, 0, 0, 0, 0)
		add(api.ErrLong, 1, math.MaxInt, width, 1<<40)
		add(api.ErrShape, 1, 1, width)
		add(api.ErrShape, 1, 1, width, 0, 0)
		add(api.ErrShape, 2, 2, width, 0, 0, 1<<40)
		add(api.ErrShape, 2, 2, width, 0, -1, 0, 0, 0)
	}
	for _, b := range []int{-1, 1 << 32, math.MinInt, math.MaxInt, -1 << 31} {
		add(api.ErrBits, 1, 1, 32, b)
		add(api.ErrBits, 2, 2, 32, 0, 0, 0, b)
		add(api.ErrBits, 1, 2, 32, 0x7FC00000, b)
	}
	return list
}

// answered tells whether a call has answered what is wanted.
func answered(t *testing.T, m api.Matrix, e api.Errno, want api.Matrix, call ...any) {
	t.Helper()
	if e != api.OK || !reflect.DeepEqual(m, want) {
		t.Errorf("%v: %v, %v; want %v", call, m, e, want)
	}
}

// refused tells whether a call has answered an error, and zeros beside it.
func refused(t *testing.T, m api.Matrix, e, want api.Errno, call ...any) {
	t.Helper()
	if e != want || m.Rows != 0 || m.Cols != 0 || m.Width != 0 || len(m.Bits) != 0 {
		t.Errorf("%v: %v, %v; want zeros, %v", call, m, e, want)
	}
}
