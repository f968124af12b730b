package kernel_test

import (
	"math"
	"math/big"

	"pupil/api"
	"pupil/elem"
	"pupil/tensor"
)

// The operations reckoned once more, plainly: a matrix is a list of rows of float64, which have the floats of both widths; sums are whole numbers of any length; shapes are found by chapter 7's calls on matrices of noughts.

// grid is a matrix's elements, row by row.
type grid [][]float64

// valueOf tells the value of bits.
func valueOf(b, width int) float64 {
	if width == 32 {
		return float64(math.Float32frombits(uint32(b)))
	}
	return math.Float64frombits(uint64(b))
}

// bitsOf tells the bits of a float that the width has; what is no number has one pattern.
func bitsOf(f float64, width int) int {
	switch {
	case f != f && width == 32:
		return 0x7FC00001
	case f != f:
		return 0x7FF8000000000001
	case width == 32:
		return int(math.Float32bits(float32(f)))
	}
	return int(math.Float64bits(f))
}

// narrowed rounds a float64 to a width: a sum, difference, product, quotient or root of binary32 that is made so is rounded as if once.
func narrowed(f float64, width int) float64 {
	if width == 32 {
		return float64(float32(f))
	}
	return f
}

func gridOf(m api.Matrix) grid {
	g := make(grid, m.Rows)
	for i, b := range m.Bits {
		g[i/m.Cols] = append(g[i/m.Cols], valueOf(b, m.Width))
	}
	return g
}

func (g grid) matrix(width int) api.Matrix {
	m := api.Matrix{Rows: len(g), Cols: len(g[0]), Width: width}
	for _, row := range g {
		for _, f := range row {
			m.Bits = append(m.Bits, bitsOf(f, width))
		}
	}
	return m
}

// made makes a grid of so many rows and columns, element by element.
func made(rows, cols int, f func(r, c int) float64) grid {
	g := make(grid, rows)
	for r := range g {
		for c := range cols {
			g[r] = append(g[r], f(r, c))
		}
	}
	return g
}

// column tells a column.
func (g grid) column(c int) []float64 {
	var list []float64
	for _, row := range g {
		list = append(list, row[c])
	}
	return list
}

// list tells all elements in a row.
func (g grid) list() []float64 {
	var list []float64
	for _, row := range g {
		list = append(list, row...)
	}
	return list
}

const unit = 2 * 1074 // all products of finite floats are multiples of 2^-unit

// fixed tells a finite float times 2^1074.
func fixed(f float64) *big.Int {
	fraction, exp := math.Frexp(f)
	n := big.NewInt(int64(fraction * (1 << 53)))
	if exp += 1074 - 53; exp >= 0 {
		return n.Lsh(n, uint(exp))
	}
	return n.Rsh(n, uint(-exp))
}

// exactly tells the sum of all products of two lists by n, rounded once.
func exactly(x, y []float64, n, width int) float64 {
	special, sum := 0.0, new(big.Int)
	for i := range x {
		p := x[i] * y[i]
		if math.IsInf(x[i], 0) || math.IsInf(y[i], 0) || p != p {
			special += p
			continue
		}
		sum.Add(sum, new(big.Int).Mul(fixed(x[i]), fixed(y[i])))
	}
	if special != 0 {
		return special
	}
	r := new(big.Rat).SetFrac(sum, new(big.Int).Lsh(big.NewInt(int64(n)), unit))
	f, _ := r.Float64()
	if width == 32 {
		narrow, _ := r.Float32()
		f = float64(narrow)
	}
	return f + 0 // never -0
}

// summed tells the sum of a list by n, rounded once.
func summed(l []float64, n, width int) float64 {
	ones := make([]float64, len(l))
	for i := range ones {
		ones[i] = 1
	}
	return exactly(l, ones, n, width)
}

// placeOf tells the place of the greatest of a row.
func placeOf(row []float64) int {
	for i, f := range row {
		if f != f {
			return i
		}
	}
	for i, f := range row {
		greatest := true
		for _, other := range row {
			greatest = greatest && !(other > f)
		}
		if greatest {
			return i
		}
	}
	return -1
}

// byElem tells what a call of chapter 4 does to a float.
func byElem(call func(b, w int) (int, api.Errno), f float64, width int) float64 {
	b, _ := call(bitsOf(f, width), width)
	return valueOf(b, width)
}

// softened tells OpSoftmax, or OpLogSoft, of a row.
func softened(row []float64, width int, log bool) []float64 {
	g := row[placeOf(row)]
	var less, e, out []float64
	for _, x := range row {
		less = append(less, narrowed(x-g, width))
		e = append(e, byElem(elem.Exp, narrowed(x-g, width), width))
	}
	s := summed(e, 1, width)
	for i := range row {
		if log {
			out = append(out, narrowed(less[i]-byElem(elem.Log, s, width), width))
		} else {
			out = append(out, narrowed(e[i]/s, width))
		}
	}
	return out
}

// ofElement tells the operations on each element.
func ofElement(op int, x float64, width int) float64 {
	switch op {
	case api.OpNeg:
		return math.Copysign(x, math.Copysign(1, x)*-1)
	case api.OpRelu:
		if x > 0 || x != x {
			return x
		}
		return 0
	case api.OpAbs:
		return math.Abs(x)
	case api.OpExp:
		return byElem(elem.Exp, x, width)
	case api.OpLog:
		return byElem(elem.Log, x, width)
	case api.OpTanh:
		return byElem(elem.Tanh, x, width)
	case api.OpSigmoid:
		return byElem(elem.Sigmoid, x, width)
	case api.OpSoftplus:
		return byElem(elem.Softplus, x, width)
	}
	return narrowed(math.Sqrt(x), width)
}

// ofTwo tells the single operations.
func ofTwo(op int, x, y float64, width int) float64 {
	switch op {
	case api.OpAdd:
		return narrowed(x+y, width)
	case api.OpSub:
		return narrowed(x-y, width)
	case api.OpMul:
		return narrowed(x*y, width)
	}
	return narrowed(x/y, width)
}

// gathered tells the operations in which an element of what comes out takes many; of a product y is the other matrix.
func gathered(op int, x, y grid, width int) grid {
	rows, cols := len(x), len(x[0])
	switch op {
	case api.OpProduct:
		return made(rows, len(y[0]), func(r, c int) float64 { return exactly(x[r], y.column(c), 1, width) })
	case api.OpSum:
		return grid{{summed(x.list(), 1, width)}}
	case api.OpSumRows:
		return made(rows, 1, func(r, _ int) float64 { return summed(x[r], 1, width) })
	case api.OpSumCols:
		return made(1, cols, func(_, c int) float64 { return summed(x.column(c), 1, width) })
	case api.OpMean:
		return grid{{summed(x.list(), rows*cols, width)}}
	case api.OpGreatest:
		return made(rows, 1, func(r, _ int) float64 { return x[r][placeOf(x[r])] })
	}
	var g grid
	for _, row := range x {
		g = append(g, softened(row, width, op == api.OpLogSoft))
	}
	return g
}

// doOf tells Do of matrices in form that fit.
func doOf(op, a, b int, in []api.Matrix) api.Matrix {
	x, y, width := gridOf(in[0]), grid(nil), in[0].Width
	if len(in) > 1 {
		y = gridOf(in[1])
	}
	switch {
	case op <= api.OpDiv:
		rows, cols := max(len(x), len(y)), max(len(x[0]), len(y[0]))
		return made(rows, cols, func(r, c int) float64 {
			return ofTwo(op, x[min(r, len(x)-1)][min(c, len(x[0])-1)], y[min(r, len(y)-1)][min(c, len(y[0])-1)], width)
		}).matrix(width)
	case op <= api.OpSoftplus:
		return made(len(x), len(x[0]), func(r, c int) float64 { return ofElement(op, x[r][c], width) }).matrix(width)
	case op == api.OpWide:
		return x.matrix(64)
	case op == api.OpNarrow:
		return x.matrix(32)
	case op == api.OpProduct || op >= api.OpSum:
		return gathered(op, x, y, width).matrix(width)
	}
	m, _ := moveOf(op, a, b, in)
	return m
}

// moveOf tells the operations that are chapter 7's calls.
func moveOf(op, a, b int, in []api.Matrix) (api.Matrix, api.Errno) {
	switch op {
	case api.OpTurn:
		return tensor.Turn(in[0])
	case api.OpForm:
		return tensor.Form(in[0], a, b)
	case api.OpCutCols:
		return tensor.CutCols(in[0], a, b)
	case api.OpCutRows:
		return tensor.CutRows(in[0], a, b)
	case api.OpWindow:
		return tensor.Window(in[0], a, b)
	case api.OpGlueCols:
		return tensor.GlueCols(in)
	}
	return tensor.GlueRows(in)
}

// wants tells how many matrices an operation takes (-1: one or more), and whether it has two numbers; false: there is no such operation.
func wants(op int) (int, bool, bool) {
	switch op {
	case api.OpAdd, api.OpSub, api.OpMul, api.OpDiv, api.OpProduct:
		return 2, false, true
	case api.OpForm, api.OpCutCols, api.OpCutRows, api.OpWindow:
		return 1, true, true
	case api.OpGlueCols, api.OpGlueRows:
		return -1, false, true
	case api.OpNeg, api.OpRelu, api.OpAbs, api.OpExp, api.OpLog, api.OpTanh, api.OpSigmoid, api.OpSqrt, api.OpSoftplus,
		api.OpTurn, api.OpSum, api.OpSumRows, api.OpSumCols, api.OpMean, api.OpGreatest, api.OpSoftmax, api.OpLogSoft, api.OpWide, api.OpNarrow:
		return 1, false, true
	}
	return 0, false, false
}

// askedOf tells the errors that no matrix is looked at for.
func askedOf(op, a, b, count int) api.Errno {
	takes, numbers, ok := wants(op)
	switch {
	case !ok:
		return api.ErrOp
	case takes == -1 && count == 0 || takes != -1 && count != takes:
		return api.ErrArg
	case !numbers && (a != 0 || b != 0):
		return api.ErrArg
	}
	return api.OK
}

// checkOf tells whether a matrix can have a shape.
func checkOf(s api.Shape) api.Errno {
	n := new(big.Int).Mul(big.NewInt(int64(s.Rows)), big.NewInt(int64(s.Cols)))
	switch {
	case s.Width != 32 && s.Width != 64:
		return api.ErrWidth
	case s.Rows < 1 || s.Cols < 1:
		return api.ErrShape
	case n.Cmp(big.NewInt(4096)) > 0:
		return api.ErrLong
	}
	return api.OK
}

// shapeOf tells Shape.
func shapeOf(op, a, b int, in []api.Shape) (api.Shape, api.Errno) {
	if e := askedOf(op, a, b, len(in)); e != api.OK {
		return api.Shape{}, e
	}
	for _, s := range in {
		if e := checkOf(s); e != api.OK {
			return api.Shape{}, e
		}
	}
	for _, s := range in {
		if s.Width != in[0].Width || op == api.OpWide && s.Width != 32 || op == api.OpNarrow && s.Width != 64 {
			return api.Shape{}, api.ErrWidth
		}
	}
	return fitting(op, a, b, in)
}

// fitting tells the shape of what comes out of shapes of one width that matrices have.
func fitting(op, a, b int, in []api.Shape) (api.Shape, api.Errno) {
	s := in[0]
	switch op {
	case api.OpAdd, api.OpSub, api.OpMul, api.OpDiv:
		return tensor.Both(in[0], in[1])
	case api.OpProduct:
		s = api.Shape{Rows: in[0].Rows, Cols: in[1].Cols, Width: s.Width}
		if in[0].Cols != in[1].Rows {
			return api.Shape{}, api.ErrShape
		}
		if checkOf(s) != api.OK {
			return api.Shape{}, api.ErrLong
		}
		return s, api.OK
	case api.OpSum, api.OpMean:
		return api.Shape{Rows: 1, Cols: 1, Width: s.Width}, api.OK
	case api.OpSumRows, api.OpGreatest:
		return api.Shape{Rows: s.Rows, Cols: 1, Width: s.Width}, api.OK
	case api.OpSumCols:
		return api.Shape{Rows: 1, Cols: s.Cols, Width: s.Width}, api.OK
	case api.OpWide:
		return api.Shape{Rows: s.Rows, Cols: s.Cols, Width: 64}, api.OK
	case api.OpNarrow:
		return api.Shape{Rows: s.Rows, Cols: s.Cols, Width: 32}, api.OK
	case api.OpTurn, api.OpForm, api.OpCutCols, api.OpCutRows, api.OpWindow, api.OpGlueCols, api.OpGlueRows:
		m, e := moveOf(op, a, b, noughts(in))
		return api.Shape{Rows: m.Rows, Cols: m.Cols, Width: m.Width}, e
	}
	return s, api.OK
}

// noughts makes matrices of shapes.
func noughts(in []api.Shape) []api.Matrix {
	var list []api.Matrix
	for _, s := range in {
		list = append(list, api.Matrix{Rows: s.Rows, Cols: s.Cols, Width: s.Width, Bits: make([]int, s.Rows*s.Cols)})
	}
	return list
}
