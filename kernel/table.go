package kernel

import (
	"pupil/api"
	"pupil/bits"
	"pupil/elem"
	"pupil/tensor"
)

// operation is a row of the table of operations, with its two numbers taken in.
type operation struct {
	takes   int  // how many matrices; 0: one or more
	numbers bool // whether the table names its two numbers
	width   int  // the width of what it takes; 0: either
	shape   func(in []api.Shape) (api.Shape, api.Errno)
	reckon  func(in []api.Matrix, s api.Shape) []int // the elements of what comes out, whose shape is s
}

// asked tells the operation that is asked for, if it takes so many matrices and these numbers.
func asked(op, a, b, count int) (operation, api.Errno) {
	o, ok := operationOf(op, a, b)
	switch {
	case !ok:
		return operation{}, api.ErrOp
	case count == 0 || o.takes != 0 && count != o.takes:
		return operation{}, api.ErrArg
	case !o.numbers && (a != 0 || b != 0):
		return operation{}, api.ErrArg
	}
	return o, api.OK
}

// fits tells the shape of what comes out, if those that it takes fit.
func (o operation) fits(in []api.Shape) (api.Shape, api.Errno) {
	for _, s := range in {
		if s.Width != in[0].Width || o.width != 0 && s.Width != o.width {
			return api.Shape{}, api.ErrWidth
		}
	}
	return o.shape(in)
}

// operationOf tells a row of the table; false: there is none.
func operationOf(op, a, b int) (operation, bool) {
	switch op {
	case api.OpAdd:
		return both(sums()), true
	case api.OpSub:
		return both(differences()), true
	case api.OpMul:
		return both(products()), true
	case api.OpDiv:
		return both(quotients()), true
	case api.OpNeg:
		return each(bits.Neg), true
	case api.OpRelu:
		return relu(), true
	case api.OpAbs:
		return each(bits.Abs), true
	case api.OpExp:
		return each(sure(elem.Exp)), true
	case api.OpLog:
		return each(sure(elem.Log)), true
	case api.OpTanh:
		return each(sure(elem.Tanh)), true
	case api.OpSigmoid:
		return each(sure(elem.Sigmoid)), true
	case api.OpSoftplus:
		return each(sure(elem.Softplus)), true
	case api.OpSqrt:
		return each(bits.Sqrt), true
	case api.OpWide:
		return converted(32, 64), true
	case api.OpNarrow:
		return converted(64, 32), true
	}
	if o, ok := moveOf(op, a, b); ok {
		return o, true
	}
	return gatheringOf(op)
}

// moveOf tells the rows whose elements only go elsewhere.
func moveOf(op, a, b int) (operation, bool) {
	switch op {
	case api.OpTurn:
		return turn(), true
	case api.OpForm:
		return moved(tensor.Formed, tensor.Form, a, b), true
	case api.OpCutCols:
		return moved(tensor.ColsCut, tensor.CutCols, a, b), true
	case api.OpCutRows:
		return moved(tensor.RowsCut, tensor.CutRows, a, b), true
	case api.OpWindow:
		return moved(tensor.Windowed, tensor.Window, a, b), true
	case api.OpGlueCols:
		return glued(tensor.ColsGlued, tensor.GlueCols), true
	case api.OpGlueRows:
		return glued(tensor.RowsGlued, tensor.GlueRows), true
	}
	return operation{}, false
}

// gatheringOf tells the rows in which an element of what comes out takes many elements.
func gatheringOf(op int) (operation, bool) {
	switch op {
	case api.OpProduct:
		return productOf(), true
	case api.OpSum:
		return alone(oneNumber, all(total)), true
	case api.OpSumRows:
		return alone(oneColumn, rows(total)), true
	case api.OpSumCols:
		return alone(oneRow, columns(total)), true
	case api.OpMean:
		return alone(oneNumber, all(mean)), true
	case api.OpGreatest:
		return alone(oneColumn, rows(greatest)), true
	case api.OpSoftmax:
		return alone(itself, rows(softmax)), true
	case api.OpLogSoft:
		return alone(itself, rows(logSoft)), true
	}
	return operation{}, false
}
