package reverse

import (
	"slices"

	"pupil/api"
	"pupil/sure"
)

// row is a row of the table of what comes back.
type row struct {
	op     int
	brings func(s step)
}

// ruleOf tells what an operation that takes nodes brings to them.
func ruleOf(op int) func(s step) {
	rows := slices.Concat(pairRows(), elementRows(), plainRows(), matrixRows())
	at := slices.IndexFunc(rows, func(r row) bool { return r.op == op })
	return rows[at].brings
}

// pairRows has the operations on two elements.
func pairRows() []row {
	return []row{
		{api.OpAdd, each(given, given)},
		{api.OpSub, each(given, turned)},
		{api.OpMul, each(
			exactly(func(e element) api.Num { return sure.Mul(e.g, e.u) }),
			exactly(func(e element) api.Num { return sure.Mul(e.g, e.x) }))},
		{api.OpDiv, each(
			divided(func(e element) (api.Num, api.Num) { return e.g, e.u }),
			divided(func(e element) (api.Num, api.Num) { return sure.Mul(sure.Neg(e.g), e.y), e.u }))},
	}
}

// elementRows has the operations on one element.
func elementRows() []row {
	return []row{
		{api.OpNeg, each(turned)},
		{api.OpRelu, each(exactly(func(e element) api.Num { return sure.Mul(e.g, sure.Int(max(sure.Sign(e.x), 0))) }))},
		{api.OpAbs, each(exactly(func(e element) api.Num { return sure.Mul(e.g, sure.Int(sure.Sign(e.x))) }))},
		{api.OpExp, each(valued)},
		{api.OpLog, each(divided(func(e element) (api.Num, api.Num) { return e.g, e.x }))},
		{api.OpTanh, each(exactly(func(e element) api.Num { return sure.Mul(e.g, sure.Sub(sure.Int(1), sure.Mul(e.y, e.y))) }))},
		{api.OpSigmoid, each(exactly(func(e element) api.Num { return sure.Mul(e.g, sure.Sub(e.y, sure.Mul(e.y, e.y))) }))},
		{api.OpSoftplus, softplus},
		{api.OpSqrt, each(divided(func(e element) (api.Num, api.Num) { return e.g, sure.Add(e.y, e.y) }))},
	}
}

// plainRows has the operations that bring the adjoint as it is.
func plainRows() []row {
	return []row{
		{api.OpTurn, moved}, {api.OpForm, moved}, {api.OpCutCols, moved}, {api.OpCutRows, moved},
		{api.OpGlueCols, moved}, {api.OpGlueRows, moved}, {api.OpWindow, moved},
		{api.OpSum, each(given)}, {api.OpSumRows, each(given)}, {api.OpSumCols, each(given)},
		{api.OpGreatest, greatest},
		{api.OpWide, each(given)}, {api.OpNarrow, each(given)},
	}
}

// matrixRows has the others, that bring what rows and columns make.
func matrixRows() []row {
	return []row{
		{api.OpProduct, product},
		{api.OpMean, mean},
		{api.OpSoftmax, softmax},
		{api.OpLogSoft, logSoft},
	}
}
