package loss_test

import (
	"testing"

	"pupil/api"
	"pupil/eval"
)

// inputs tells the chapter's tape.
func inputs() api.Tape { return tapeOf(input(0, 1, 2, 64), input(1, 1, 2, 64)) }

// wantValue wants a call's last node to come to a number at the chapter's values.
func wantValue(t *testing.T, c call, want float64) {
	t.Helper()
	made, number, e := c.do(inputs())
	if e != api.OK {
		t.Fatalf("%v: %v", c, e)
	}
	values, f := eval.Run(made, []api.Matrix{of(1, 2, 64, 1, -1), of(1, 2, 64, 0, 1)}, nil)
	if f != (api.Fault{}) || !sameMatrix(values[number], of(1, 1, 64, want)) {
		t.Errorf("%v: %v, %v; want %v", c, values, f, want)
	}
}

// TestExamples: the chapter's table, line by line.
func TestExamples(t *testing.T) {
	wantPut(t, inputs(), squared(0, 1), takes(api.OpSub, 0, 1), takes(api.OpMul, 2, 2), takes(api.OpMean, 3))
	wantPut(t, inputs(), absolute(0, 1), takes(api.OpSub, 0, 1), takes(api.OpAbs, 2), takes(api.OpMean, 3))
	wantPut(t, inputs(), huber(0, 1, one),
		takes(api.OpSub, 0, 1), takes(api.OpAbs, 2), constant(1, 1, 64, one), takes(api.OpSub, 3, 4), takes(api.OpRelu, 5), takes(api.OpSub, 3, 6),
		constant(1, 1, 64, half), takes(api.OpMul, 7, 8), takes(api.OpSub, 3, 9), takes(api.OpMul, 7, 10), takes(api.OpMean, 11))
	wantPut(t, inputs(), hinge(0, 1),
		takes(api.OpMul, 0, 1), constant(1, 1, 64, one), takes(api.OpSub, 3, 2), takes(api.OpRelu, 4), takes(api.OpMean, 5))
	wantValue(t, squared(0, 1), 2.5)
	wantValue(t, absolute(0, 1), 1.5)
	wantValue(t, huber(0, 1, one), 1)
	wantValue(t, hinge(0, 1), 1.5)
	wantError(t, inputs(), squared(0, 2), api.ErrNode)
	wantError(t, inputs(), huber(0, 1, 0), api.ErrArg)
	wantError(t, inputs(), penalty(0, api.CostAbs, 1, 0), api.ErrShape)
	wantError(t, inputs(), penalty(0, api.CostAbs, one, 0), api.ErrShape)
}
