package bound

import (
	"slices"

	"pupil/api"
	"pupil/sure"
)

// row is a row of the table of what elements are made of, which holds on both ways: it has either the expression of each element, or a mixture of whole rows.
type row struct {
	op          int
	expressions func(s step) func(to int) expression
	mixed       func(s step) mixture
}

// rowOf tells that of an operation that takes nodes.
func rowOf(op int) row {
	rows := slices.Concat(pairRows(), elementRows(), plainRows(), mixedRows())
	at := slices.IndexFunc(rows, func(r row) bool { return r.op == op })
	return rows[at]
}

// pairRows has the operations on two elements.
func pairRows() []row {
	return []row{
		{op: api.OpAdd, expressions: each(one, one)},
		{op: api.OpSub, expressions: each(one, lessOne)},
		{op: api.OpMul, expressions: each(second, first)},
		{op: api.OpDiv, expressions: divided(second, one, func(e element) api.Num { return sure.Neg(e.y) })},
	}
}

// elementRows has the operations on one element.
func elementRows() []row {
	return []row{
		{op: api.OpNeg, expressions: each(lessOne)},
		{op: api.OpRelu, expressions: each(func(e element) api.Num { return sure.Int(max(sure.Sign(e.x), 0)) })},
		{op: api.OpAbs, expressions: each(func(e element) api.Num { return sure.Int(sure.Sign(e.x)) })},
		{op: api.OpExp, expressions: each(itself)},
		{op: api.OpLog, expressions: divided(first, one)},
		{op: api.OpTanh, expressions: each(func(e element) api.Num { return sure.Sub(sure.Int(1), sure.Mul(e.y, e.y)) })},
		{op: api.OpSigmoid, expressions: each(func(e element) api.Num { return sure.Sub(e.y, sure.Mul(e.y, e.y)) })},
		{op: api.OpSoftplus, expressions: softplus},
		{op: api.OpSqrt, expressions: divided(func(e element) api.Num { return sure.Add(e.y, e.y) }, one)},
		{op: api.OpWide, expressions: each(one)},
		{op: api.OpNarrow, expressions: each(one)},
	}
}

// plainRows has those whose elements take others, and how many, by where they stand.
func plainRows() []row {
	return []row{
		{op: api.OpProduct, expressions: inner},
		{op: api.OpTurn, expressions: moved}, {op: api.OpForm, expressions: moved},
		{op: api.OpCutCols, expressions: moved}, {op: api.OpCutRows, expressions: moved},
		{op: api.OpGlueCols, expressions: moved}, {op: api.OpGlueRows, expressions: moved},
		{op: api.OpWindow, expressions: moved},
		{op: api.OpSum, expressions: summed}, {op: api.OpSumRows, expressions: summed}, {op: api.OpSumCols, expressions: summed},
		{op: api.OpMean, expressions: mean},
		{op: api.OpGreatest, expressions: greatest},
	}
}

// mixedRows has those whose elements each take their whole row.
func mixedRows() []row {
	return []row{
		{op: api.OpSoftmax, mixed: softmax},
		{op: api.OpLogSoft, mixed: logSoft},
	}
}
