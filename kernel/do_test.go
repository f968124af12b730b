package kernel_test

import (
	"math"
	"slices"
	"testing"

	"pupil/api"
	"pupil/elem"
	"pupil/kernel"
)

// held holds Do of matrices that fit against what is asked.
func held(t *testing.T, op, a, b int, in ...api.Matrix) {
	t.Helper()
	m, e := kernel.Do(op, a, b, in)
	if len(in[0].Bits) > 100 {
		answered(t, m, e, doOf(op, a, b, in), op, a, b, in[0].Rows, in[0].Cols, in[0].Width)
		return
	}
	answered(t, m, e, doOf(op, a, b, in), op, a, b, in)
}

// TestP801Pairs: the single operations, of shapes that stretch to each other.
func TestP801Pairs(t *testing.T) {
	for _, width := range widths {
		for i, s := range [][4]int{{1, 1, 1, 1}, {2, 3, 2, 3}, {1, 2, 2, 1}, {2, 1, 1, 2}, {1, 1, 3, 2}, {3, 2, 1, 1}, {3, 2, 3, 1}, {3, 2, 1, 2}, {3, 1, 3, 2}, {1, 2, 3, 2}, {64, 64, 64, 64}, {64, 1, 1, 64}, {1, 4096, 1, 1}, {1, 1, 4096, 1}} {
			for _, kind := range kinds {
				for _, op := range pairOps {
					held(t, op, 0, 0, kind(s[0], s[1], width, 801+i), kind(s[2], s[3], width, 901+i))
				}
			}
		}
		edge := edges(width)
		for i, none := range nones(width) {
			m := api.Matrix{Rows: 1, Cols: 2, Width: width, Bits: []int{none, nones(width)[len(nones(width))-1-i]}}
			for _, op := range pairOps {
				held(t, op, 0, 0, m, ofWidth(width, 2, 1, 1, inf))
				held(t, op, 0, 0, ofWidth(width, 2, 1, 0, -inf), m)
				held(t, op, 0, 0, m, m)
			}
		}
		for _, op := range pairOps {
			// Each edge with each other one.
			held(t, op, 0, 0, ofWidth(width, len(edge), 1, edge...), ofWidth(width, 1, len(edge), edge...))
		}
	}
}

// TestP801Single: each operation is rounded by itself, in its own width.
func TestP801Single(t *testing.T) {
	for _, x := range []struct {
		op          int
		x, y, w, ww float64 // and what comes out in binary64, in binary32
	}{
		{api.OpAdd, 0x1p24, 1, 0x1p24 + 1, 0x1p24},
		{api.OpAdd, 0x1p24 + 2, 1, 0x1p24 + 3, 0x1p24 + 4},
		{api.OpSub, 1, 0x1p-26, 1 - 0x1p-26, 1},
		{api.OpMul, 1 + 0x1p-13, 1 + 0x1p-13, 1 + 0x1p-12 + 0x1p-26, 1 + 0x1p-12},
		{api.OpMul, 0x1p100, 0x1p100, 0x1p200, inf},
		{api.OpMul, 0x1p-100, -0x1p-100, -0x1p-200, minus},
		{api.OpDiv, 1, 3, 1.0 / 3, float64(float32(1) / 3)},
		{api.OpDiv, 1, 0, inf, inf},
		{api.OpDiv, -1, 0, -inf, -inf},
		{api.OpDiv, 1, minus, -inf, -inf},
		{api.OpDiv, 0, 0, none, none},
		{api.OpAdd, minus, minus, minus, minus},
		{api.OpAdd, minus, 0, 0, 0},
		{api.OpSub, minus, 0, minus, minus},
		{api.OpSub, 5, 5, 0, 0},
		{api.OpMul, minus, 5, minus, minus},
		{api.OpMul, inf, 0, none, none},
		{api.OpAdd, inf, -inf, none, none},
		{api.OpSub, inf, inf, none, none},
		{api.OpDiv, inf, inf, none, none},
	} {
		m, e := kernel.Do(x.op, 0, 0, list(of(1, 1, x.x), of(1, 1, x.y)))
		answered(t, m, e, of(1, 1, x.w), x)
		m, e = kernel.Do(x.op, 0, 0, list(ofWidth(32, 1, 1, x.x), ofWidth(32, 1, 1, x.y)))
		answered(t, m, e, ofWidth(32, 1, 1, x.ww), x)
	}
}

// TestP801Each: the operations on each element by itself.
func TestP801Each(t *testing.T) {
	for _, width := range widths {
		for _, op := range eachOps {
			for i, s := range shapes() {
				for _, kind := range kinds {
					held(t, op, 0, 0, kind(s[0], s[1], width, 810+i))
				}
			}
			held(t, op, 0, 0, ofWidth(width, 1, len(edges(width)), edges(width)...))
			held(t, op, 0, 0, api.Matrix{Rows: len(nones(width)), Cols: 1, Width: width, Bits: nones(width)})
		}
		for _, op := range []int{api.OpNeg, api.OpRelu, api.OpAbs, api.OpSqrt} {
			for i, s := range full() {
				held(t, op, 0, 0, odd(s[0], s[1], width, 820+i))
			}
		}
		held(t, api.OpTanh, 0, 0, small(1, 4096, width, 830))
	}
}

// TestP801Values: what the operations make of a few numbers, in both widths.
func TestP801Values(t *testing.T) {
	for _, x := range []struct {
		op      int
		x, want []float64
	}{
		{api.OpNeg, []float64{0, minus, 1, -2, inf, -inf, none}, []float64{minus, 0, -1, 2, -inf, inf, none}},
		{api.OpRelu, []float64{0, minus, 1, -2, inf, -inf, none, 0x1p-149, -0x1p-149}, []float64{0, 0, 1, 0, inf, 0, none, 0x1p-149, 0}},
		{api.OpAbs, []float64{0, minus, 1, -2, inf, -inf, none}, []float64{0, 0, 1, 2, inf, inf, none}},
		{api.OpSqrt, []float64{0, minus, 4, -4, inf, -inf, none, 0x1p-100}, []float64{0, minus, 2, none, inf, none, none, 0x1p-50}},
		{api.OpExp, []float64{0, minus, inf, -inf, none, 800, -800}, []float64{1, 1, inf, 0, none, inf, 0}},
		{api.OpLog, []float64{1, 0, minus, -1, inf, -inf, none}, []float64{0, -inf, -inf, none, inf, none, none}},
		{api.OpTanh, []float64{0, minus, inf, -inf, none, 100}, []float64{0, 0, 1, -1, none, 1}},
		{api.OpSigmoid, []float64{0, minus, inf, -inf, none, 100}, []float64{0.5, 0.5, 1, 0, none, 1}},
		{api.OpSoftplus, []float64{inf, -inf, none, 800, -800}, []float64{inf, 0, none, 800, 0}},
	} {
		for _, width := range widths {
			m, e := kernel.Do(x.op, 0, 0, list(ofWidth(width, 1, len(x.x), x.x...)))
			answered(t, m, e, ofWidth(width, 1, len(x.x), x.want...), x.op, width)
			m, e = kernel.Do(x.op, 0, 0, list(ofWidth(width, len(x.x), 1, x.x...)))
			answered(t, m, e, ofWidth(width, len(x.x), 1, x.want...), x.op, width)
		}
	}
}

// TestP801Elem: exponentials and their kin are chapter 4's, each its own.
func TestP801Elem(t *testing.T) {
	for op, f := range map[int]func(b, w int) (int, api.Errno){api.OpExp: elem.Exp, api.OpLog: elem.Log, api.OpTanh: elem.Tanh, api.OpSigmoid: elem.Sigmoid, api.OpSoftplus: elem.Softplus} {
		for _, width := range widths {
			for _, x := range []float64{0.5, 1, 2, 3} {
				b, _ := f(bitsOf(x, width), width)
				m, e := kernel.Do(op, 0, 0, list(ofWidth(width, 1, 1, x)))
				answered(t, m, e, api.Matrix{Rows: 1, Cols: 1, Width: width, Bits: []int{b}}, op, x, width)
			}
		}
	}
}

// TestP801Product: rows by columns, rounded once each.
func TestP801Product(t *testing.T) {
	for _, width := range widths {
		for i, s := range [][3]int{{1, 1, 1}, {1, 3, 1}, {3, 1, 1}, {1, 1, 3}, {3, 1, 2}, {2, 3, 4}, {4, 3, 2}, {1, 5, 4}, {4, 5, 1}, {64, 1, 64}, {16, 16, 16}, {1, 4096, 1}, {4096, 1, 1}, {1, 1, 4096}} {
			for _, kind := range kinds {
				held(t, api.OpProduct, 0, 0, kind(s[0], s[1], width, 830+i), kind(s[1], s[2], width, 840+i))
			}
		}
		held(t, api.OpProduct, 0, 0, small(64, 64, width, 850), mixed(64, 64, width, 851))
	}
}

// TestP801ProductOnce: great numbers that cancel, infinities of both signs, noughts, what is nearly a tie.
func TestP801ProductOnce(t *testing.T) {
	for _, x := range []struct {
		x, y         []float64
		wide, narrow float64
	}{
		{[]float64{0x1p60, 1, -0x1p60}, []float64{1, 1, 1}, 1, 1},
		{[]float64{0x1p120, 0x1p-100, -0x1p120}, []float64{0x1p120, 0x1p-20, 0x1p120}, 0x1p-120, 0x1p-120},
		{[]float64{0x1p120, 0x1p120}, []float64{0x1p120, -0x1p120}, 0, 0},
		{[]float64{0x1p120, 1}, []float64{0x1p120, 1}, 0x1p240, inf},
		{[]float64{minus, minus}, []float64{1, 1}, 0, 0},
		{[]float64{minus}, []float64{5}, 0, 0},
		{[]float64{0x1p-149}, []float64{-0x1p-149}, -0x1p-298, 0},
		{[]float64{inf, -inf}, []float64{1, 1}, none, none},
		{[]float64{inf, 1}, []float64{-1, 5}, -inf, -inf},
		{[]float64{inf, -inf}, []float64{1, -1}, inf, inf},
		{[]float64{inf, 1}, []float64{0, 1}, none, none},
		{[]float64{none, 1}, []float64{0, 1}, none, none},
		{[]float64{1, 0x1p-24, 0x1p-100}, []float64{1, 1, 1}, 1 + 0x1p-24, 1 + 0x1p-23},
		{[]float64{1, 0x1p-53, 0x1p-100}, []float64{1, 1, 1}, 1 + 0x1p-52, 1},
	} {
		n := len(x.x)
		m, e := kernel.Do(api.OpProduct, 0, 0, list(of(1, n, x.x...), of(n, 1, x.y...)))
		answered(t, m, e, of(1, 1, x.wide), x)
		m, e = kernel.Do(api.OpProduct, 0, 0, list(ofWidth(32, 1, n, x.x...), ofWidth(32, n, 1, x.y...)))
		answered(t, m, e, ofWidth(32, 1, 1, x.narrow), x)
	}
}

// TestP801Many: sums, means, the greatest, softmax and its logarithm.
func TestP801Many(t *testing.T) {
	for _, width := range widths {
		for _, op := range manyOps {
			for i, s := range shapes() {
				for _, kind := range kinds {
					held(t, op, 0, 0, kind(s[0], s[1], width, 860+i))
				}
			}
			for _, x := range edges(width) {
				held(t, op, 0, 0, ofWidth(width, 1, 1, x))
				held(t, op, 0, 0, ofWidth(width, 2, 2, x, 1, -x, x))
			}
			for _, none := range nones(width) {
				held(t, op, 0, 0, api.Matrix{Rows: 2, Cols: 2, Width: width, Bits: []int{0, none, 0, 0}})
				held(t, op, 0, 0, api.Matrix{Rows: 1, Cols: 1, Width: width, Bits: []int{none}})
			}
		}
		for _, op := range []int{api.OpSum, api.OpSumRows, api.OpSumCols, api.OpMean, api.OpGreatest} {
			for i, s := range full() {
				held(t, op, 0, 0, small(s[0], s[1], width, 870+i))
				held(t, op, 0, 0, mixed(s[0], s[1], width, 880+i))
			}
		}
		held(t, api.OpSoftmax, 0, 0, small(1, 4096, width, 890))
		held(t, api.OpLogSoft, 0, 0, small(64, 64, width, 891))
	}
}

// TestP801Sums: what sums and means make of a few numbers: one rounding, 0 of noughts, infinities.
func TestP801Sums(t *testing.T) {
	for _, x := range []struct {
		x               []float64
		sum, mean, wide float64 // the mean in binary64
	}{
		{[]float64{minus}, 0, 0, 0},
		{[]float64{minus, minus, minus}, 0, 0, 0},
		{[]float64{0x1p127, 0x1p127, -0x1p127, -0x1p127, 1}, 1, float64(float32(1) / 5), 0.2},
		{[]float64{0x1p127, 0x1p127, -0x1p127}, 0x1p127, float64(float32(0x1p127) / 3), 0x1p127 / 3},
		{[]float64{0x1p100, 1, -0x1p100}, 1, float64(float32(1) / 3), 1.0 / 3},
		{[]float64{inf, 1}, inf, inf, inf},
		{[]float64{1, -inf}, -inf, -inf, -inf},
		{[]float64{inf, -inf}, none, none, none},
		{[]float64{none, 1}, none, none, none},
		{[]float64{5}, 5, 5, 5},
		{[]float64{1, 1, 2}, 4, float64(float32(4) / 3), 4.0 / 3},
		{[]float64{0x1p-149, 0x1p-149, -0x1p-149, 0}, 0x1p-149, 0, 0x1p-151},
		{[]float64{0x1p-149, 0x1p-149}, 0x1p-148, 0x1p-149, 0x1p-149},
	} {
		for _, width := range widths {
			mean := x.mean
			if width == 64 {
				mean = x.wide
			}
			n := len(x.x)
			row, tall := ofWidth(width, 1, n, x.x...), ofWidth(width, n, 1, x.x...)
			for op, m := range map[int]api.Matrix{api.OpSum: row, api.OpSumRows: row, api.OpSumCols: tall} {
				got, e := kernel.Do(op, 0, 0, list(m))
				answered(t, got, e, ofWidth(width, 1, 1, x.sum), op, x, width)
			}
			got, e := kernel.Do(api.OpMean, 0, 0, list(row))
			answered(t, got, e, ofWidth(width, 1, 1, mean), "mean", x, width)
			got, e = kernel.Do(api.OpSumCols, 0, 0, list(row))
			for i, f := range x.x {
				if e != api.OK || got.Bits[i] != bitsOf(f+0, width) {
					t.Errorf("columns of one element, %v: %v, %v", x.x, got, e)
				}
			}
		}
	}
	// The greatest ones of all make a mean that is one of them, though their sum is none.
	m, e := kernel.Do(api.OpMean, 0, 0, list(of(1, 2, math.MaxFloat64, math.MaxFloat64)))
	answered(t, m, e, of(1, 1, math.MaxFloat64), "mean of the greatest")
	// From the sum rounded to 2^53 it would be another one.
	m, e = kernel.Do(api.OpMean, 0, 0, list(of(1, 3, 0x1p53, 1, 0)))
	answered(t, m, e, of(1, 1, 3002399751580331), "mean of 2^53 + 1")
}

// TestP801Rows: what each row makes: the greatest, the shares.
func TestP801Rows(t *testing.T) {
	two := math.Log(2)
	for _, x := range []struct {
		op      int
		x, want []float64
	}{
		{api.OpGreatest, []float64{3, 1, 3}, []float64{3}},
		{api.OpGreatest, []float64{minus, 0, -1}, []float64{minus}},
		{api.OpGreatest, []float64{0, minus}, []float64{0}},
		{api.OpGreatest, []float64{inf, none, 5}, []float64{none}},
		{api.OpGreatest, []float64{-inf, -inf}, []float64{-inf}},
		{api.OpGreatest, []float64{minus}, []float64{minus}},
		{api.OpSoftmax, []float64{0, 0}, []float64{0.5, 0.5}},
		{api.OpSoftmax, []float64{5}, []float64{1}},
		{api.OpSoftmax, []float64{minus}, []float64{1}},
		{api.OpSoftmax, []float64{1000, 0}, []float64{1, 0}},
		{api.OpSoftmax, []float64{0x1p127, 0x1p127, -0x1p127}, []float64{0.5, 0.5, 0}},
		{api.OpSoftmax, []float64{7, 7, 7, 7}, []float64{0.25, 0.25, 0.25, 0.25}},
		{api.OpSoftmax, []float64{-inf, 3}, []float64{0, 1}},
		{api.OpSoftmax, []float64{inf, 3}, []float64{none, none}},
		{api.OpSoftmax, []float64{-inf, -inf}, []float64{none, none}},
		{api.OpSoftmax, []float64{inf}, []float64{none}},
		{api.OpSoftmax, []float64{1, none, 2}, []float64{none, none, none}},
		{api.OpLogSoft, []float64{0, 0}, []float64{-two, -two}},
		{api.OpLogSoft, []float64{5}, []float64{0}},
		{api.OpLogSoft, []float64{minus}, []float64{0}},
		{api.OpLogSoft, []float64{1000, 0}, []float64{0, -1000}},
		{api.OpLogSoft, []float64{-inf, 3}, []float64{-inf, 0}},
		{api.OpLogSoft, []float64{inf, 3}, []float64{none, none}},
		{api.OpLogSoft, []float64{-inf}, []float64{none}},
		{api.OpLogSoft, []float64{none, 1}, []float64{none, none}},
	} {
		for _, width := range widths {
			m, e := kernel.Do(x.op, 0, 0, list(ofWidth(width, 1, len(x.x), x.x...)))
			answered(t, m, e, ofWidth(width, 1, len(x.want), x.want...), x, width)
			// A row beside it turns nothing.
			other := slices.Repeat([]float64{none}, len(x.x))
			m, e = kernel.Do(x.op, 0, 0, list(ofWidth(width, 2, len(x.x), append(other, x.x...)...)))
			answered(t, m, e, ofWidth(width, 2, len(x.want), append(other[:len(x.want):len(x.want)], x.want...)...), x, width)
		}
	}
}

// TestP801Moves: chapter 7's calls, with their numbers each at its place.
func TestP801Moves(t *testing.T) {
	for _, width := range widths {
		for i, kind := range kinds {
			m := kind(4, 6, width, 895+i)
			held(t, api.OpTurn, 0, 0, m)
			held(t, api.OpForm, 3, 8, m)
			held(t, api.OpForm, 8, 3, m)
			held(t, api.OpCutCols, 1, 5, m)
			held(t, api.OpCutCols, 0, 6, m)
			held(t, api.OpCutRows, 1, 3, m)
			held(t, api.OpCutRows, 3, 4, m)
			row := kind(1, 9, width, 898+i)
			held(t, api.OpWindow, 3, 2, row)
			held(t, api.OpWindow, 2, 3, row)
			held(t, api.OpWindow, 9, 1, row)
			for _, op := range glueOps {
				held(t, op, 0, 0, m)
				held(t, op, 0, 0, m, m)
				held(t, op, 0, 0, m, kind(4, 6, width, 899+i), m)
			}
			held(t, api.OpGlueCols, 0, 0, m, kind(4, 1, width, 1), kind(4, 3, width, 2))
			held(t, api.OpGlueRows, 0, 0, m, kind(1, 6, width, 1), kind(3, 6, width, 2))
			held(t, api.OpForm, 4096, 1, kind(64, 64, width, i))
			held(t, api.OpTurn, 0, 0, kind(2, 2048, width, i))
		}
		number := ofWidth(width, 1, 1, 7)
		held(t, api.OpGlueCols, 0, 0, slices.Repeat(list(number), 4096)...)
		held(t, api.OpGlueRows, 0, 0, slices.Repeat(list(number), 4096)...)
	}
	six := of(2, 3, 1, 2, 3, 4, 5, 6)
	for _, x := range []struct {
		op, a, b int
		in       []api.Matrix
		want     api.Matrix
	}{
		{api.OpTurn, 0, 0, list(six), of(3, 2, 1, 4, 2, 5, 3, 6)},
		{api.OpForm, 3, 2, list(six), of(3, 2, 1, 2, 3, 4, 5, 6)},
		{api.OpCutCols, 1, 3, list(six), of(2, 2, 2, 3, 5, 6)},
		{api.OpCutRows, 1, 2, list(six), of(1, 3, 4, 5, 6)},
		{api.OpGlueCols, 0, 0, list(six, of(2, 1, 7, 8)), of(2, 4, 1, 2, 3, 7, 4, 5, 6, 8)},
		{api.OpGlueRows, 0, 0, list(six, of(1, 3, 7, 8, 9)), of(3, 3, 1, 2, 3, 4, 5, 6, 7, 8, 9)},
		{api.OpWindow, 3, 2, list(of(1, 5, 1, 2, 3, 4, 5)), of(2, 3, 1, 2, 3, 3, 4, 5)},
		{api.OpSumRows, 0, 0, list(six), of(2, 1, 6, 15)},
		{api.OpSumCols, 0, 0, list(six), of(1, 3, 5, 7, 9)},
		{api.OpProduct, 0, 0, list(six, of(3, 2, 1, 0, 0, 1, 1, 1)), of(2, 2, 4, 5, 10, 11)},
	} {
		m, e := kernel.Do(x.op, x.a, x.b, x.in)
		answered(t, m, e, x.want, x.op, x.a, x.b)
	}
}

// TestP801Widths: OpWide and OpNarrow, each of its one width.
func TestP801Widths(t *testing.T) {
	for i, s := range append(shapes(), full()...) {
		for _, kind := range kinds {
			narrow, wide := kind(s[0], s[1], 32, i), kind(s[0], s[1], 64, i)
			held(t, api.OpWide, 0, 0, narrow)
			held(t, api.OpNarrow, 0, 0, wide)
			m, e := kernel.Do(api.OpWide, 0, 0, list(wide))
			refused(t, m, e, api.ErrWidth, "OpWide")
			m, e = kernel.Do(api.OpNarrow, 0, 0, list(narrow))
			refused(t, m, e, api.ErrWidth, "OpNarrow")
		}
	}
	m, e := kernel.Do(api.OpNarrow, 0, 0, list(of(1, 6, 0.1, 0x1p200, -0x1p-200, minus, none, 1+0x1p-24)))
	answered(t, m, e, ofWidth(32, 1, 6, float64(float32(0.1)), inf, minus, minus, none, 1), "OpNarrow")
	m, e = kernel.Do(api.OpWide, 0, 0, list(ofWidth(32, 1, 4, 0x1p-149, minus, -inf, none)))
	answered(t, m, e, of(1, 4, 0x1p-149, minus, -inf, none), "OpWide")
}

// TestP801None: what is no number, by whatever pattern, is told by the one, wherever it comes to.
func TestP801None(t *testing.T) {
	for _, width := range widths {
		for _, b := range nones(width) {
			m := api.Matrix{Rows: 1, Cols: 2, Width: width, Bits: []int{b, b}}
			for _, op := range ops() {
				if op == api.OpWide && width == 64 || op == api.OpNarrow && width == 32 {
					continue
				}
				in, x, y := list(m), 0, 0
				switch takes, numbers, _ := wants(op); {
				case op == api.OpProduct:
					in = list(m, api.Matrix{Rows: 2, Cols: 1, Width: width, Bits: []int{b, b}})
				case takes == 2 || takes == -1:
					in = list(m, m)
				case op == api.OpForm:
					x, y = 2, 1
				case op == api.OpWindow:
					x, y = 1, 1
				case numbers:
					x, y = 0, 1
				}
				out, e := kernel.Do(op, x, y, in)
				if e != api.OK {
					t.Fatalf("%d: %v", op, e)
				}
				for _, got := range out.Bits {
					if got != bitsOf(none, out.Width) {
						t.Errorf("%d of %#x: %#x", op, b, got)
					}
				}
			}
		}
	}
}
