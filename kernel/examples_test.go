package kernel_test

import (
	"math"
	"reflect"
	"testing"

	"pupil/api"
	"pupil/kernel"
)

// of makes a matrix of binary64 numbers.
func of(rows, cols int, numbers ...float64) api.Matrix { return ofWidth(64, rows, cols, numbers...) }

// ofWidth makes a matrix of numbers of a width.
func ofWidth(width, rows, cols int, numbers ...float64) api.Matrix {
	m := api.Matrix{Rows: rows, Cols: cols, Width: width}
	for _, f := range numbers {
		m.Bits = append(m.Bits, bitsOf(f, width))
	}
	return m
}

// list makes a list of matrices.
func list(in ...api.Matrix) []api.Matrix { return in }

var (
	inf   = math.Inf(1)
	none  = math.NaN()
	minus = math.Copysign(0, -1) // -0
)

// TestExamples: the chapter's table, line by line.
func TestExamples(t *testing.T) {
	for _, x := range []struct {
		op, a, b int
		in       []api.Matrix
		want     api.Matrix
	}{
		{api.OpAdd, 0, 0, list(of(1, 2, 1, 2), of(2, 1, 10, 20)), of(2, 2, 11, 12, 21, 22)},
		{api.OpProduct, 0, 0, list(of(1, 3, 0x1p60, 1, -0x1p60), of(3, 1, 1, 1, 1)), of(1, 1, 1)},
		{api.OpMean, 0, 0, list(of(1, 3, 1, 1, 2)), api.Matrix{Rows: 1, Cols: 1, Width: 64, Bits: []int{0x3FF5555555555555}}},
		{api.OpRelu, 0, 0, list(of(1, 4, minus, -1, 2, none)), of(1, 4, 0, 0, 2, none)},
		{api.OpGreatest, 0, 0, list(of(1, 3, 0, minus, -1)), of(1, 1, 0)},
		{api.OpSoftmax, 0, 0, list(of(1, 2, 0, 0)), of(1, 2, 0.5, 0.5)},
		{api.OpSoftmax, 0, 0, list(of(1, 2, 1000, 0)), of(1, 2, 1, 0)},
		{api.OpLogSoft, 0, 0, list(of(1, 2, 0, 0)), api.Matrix{Rows: 1, Cols: 2, Width: 64, Bits: []int{-0x4019D1BD0105C611, -0x4019D1BD0105C611}}},
	} {
		m, e := kernel.Do(x.op, x.a, x.b, x.in)
		answered(t, m, e, x.want, x.op, x.in)
	}
	for _, x := range []struct {
		op, a, b int
		in       []api.Matrix
		want     api.Errno
	}{
		{api.OpForm, 4, 2, list(of(2, 3, 1, 2, 3, 4, 5, 6)), api.ErrShape},
		{api.OpTurn, 1, 0, list(of(2, 3, 1, 2, 3, 4, 5, 6)), api.ErrArg},
		{api.OpProduct, 0, 0, list(of(1, 2, 1, 2), of(1, 2, 1, 2)), api.ErrShape},
	} {
		m, e := kernel.Do(x.op, x.a, x.b, x.in)
		refused(t, m, e, x.want, x.op, x.a, x.b, x.in)
	}
	if places, e := kernel.Places(of(1, 3, 0, minus, -1)); e != api.OK || !reflect.DeepEqual(places, []int{0}) {
		t.Errorf("Places: %v, %v", places, e)
	}
}
