package forward

import (
	"slices"

	"pupil/api"
	"pupil/sure"
)

// row is a row of the table of local derivatives.
type row struct {
	op      int
	tangent func(s step) []int // the elements of the node's tangent
}

// ruleOf tells how the tangent is made of an operation that takes nodes.
func ruleOf(op int) func(s step) []int {
	rows := slices.Concat(elementRows(), linearRows(), matrixRows())
	at := slices.IndexFunc(rows, func(r row) bool { return r.op == op })
	return rows[at].tangent
}

// elementRows has the operations whose elements each take what stands at one place.
func elementRows() []row {
	return []row{
		{api.OpMul, rounded(func(e element) api.Num { return sure.Add(sure.Mul(e.dx, e.u), sure.Mul(e.x, e.du)) })},
		{api.OpDiv, divided(func(e element) (api.Num, api.Num) { return sure.Sub(e.dx, sure.Mul(e.y, e.du)), e.u })},
		{api.OpRelu, rounded(func(e element) api.Num { return sure.Mul(sure.Int(max(sure.Sign(e.x), 0)), e.dx) })},
		{api.OpAbs, rounded(func(e element) api.Num { return sure.Mul(sure.Int(sure.Sign(e.x)), e.dx) })},
		{api.OpExp, rounded(valued)},
		{api.OpLog, divided(func(e element) (api.Num, api.Num) { return e.dx, e.x })},
		{api.OpTanh, rounded(func(e element) api.Num { return sure.Mul(sure.Sub(sure.Int(1), sure.Mul(e.y, e.y)), e.dx) })},
		{api.OpSigmoid, rounded(func(e element) api.Num { return sure.Mul(sure.Sub(e.y, sure.Mul(e.y, e.y)), e.dx) })},
		{api.OpSoftplus, softplus},
		{api.OpSqrt, divided(func(e element) (api.Num, api.Num) { return e.dx, sure.Add(e.y, e.y) })},
	}
}

// linearRows has the operations whose tangent hangs on the tangents alone.
func linearRows() []row {
	return []row{
		{api.OpAdd, linear}, {api.OpSub, linear}, {api.OpNeg, linear},
		{api.OpTurn, linear}, {api.OpForm, linear}, {api.OpCutCols, linear}, {api.OpCutRows, linear},
		{api.OpGlueCols, linear}, {api.OpGlueRows, linear}, {api.OpWindow, linear},
		{api.OpSum, linear}, {api.OpSumRows, linear}, {api.OpSumCols, linear}, {api.OpMean, linear},
		{api.OpWide, linear}, {api.OpNarrow, linear},
	}
}

// matrixRows has the others, whose elements take rows and columns.
func matrixRows() []row {
	return []row{
		{api.OpProduct, product},
		{api.OpGreatest, greatest},
		{api.OpSoftmax, softmax},
		{api.OpLogSoft, logSoft},
	}
}
