package elem_test

import (
	"math"
	"testing"

	"pupil/api"
	"pupil/elem"
)

// TestExamples: the chapter's table, line by line.
func TestExamples(t *testing.T) {
	log2 := 0x3FE62E42FEFA39EF
	for i, x := range []struct {
		f    func(b, w int) (int, api.Errno)
		b    int
		want int
	}{
		{elem.Exp, 0, b64(1)}, {elem.Exp, b64(1), 0x4005BF0A8B145769}, {elem.Exp, b64(-1), 0x3FD78B56362CEF38}, {elem.Exp, b64(710), api.Inf}, {elem.Exp, b64(-745), 1}, {elem.Exp, b64(-746), 0},
		{elem.Log, b64(1), 0}, {elem.Log, b64(2), log2}, {elem.Log, 0, minus(api.Inf, 64)}, {elem.Log, b64(-1), api.NaN}, {elem.Log, 1, minus(0x40874385446D71C3, 64)},
		{elem.Tanh, b64(0.5), 0x3FDD9353D7568AF3}, {elem.Tanh, b64(20), b64(1)}, {elem.Tanh, 1, 1}, {elem.Tanh, -1 << 63, 0},
		{elem.Sigmoid, 0, b64(0.5)}, {elem.Sigmoid, b64(40), b64(1)}, {elem.Sigmoid, b64(-745), 1},
		{elem.Softplus, 0, log2}, {elem.Softplus, b64(-800), 0}, {elem.Softplus, b64(800), b64(800)},
	} {
		if got, e := x.f(x.b, 64); got != x.want || e != api.OK {
			t.Errorf("%d: %#x, %v; want %#x", i, got, e, x.want)
		}
	}
	if got, e := elem.Exp(0x3F800000, 32); got != 0x402DF854 || e != api.OK {
		t.Errorf("Exp(1) of width 32: %#x, %v", got, e)
	}
	for i, x := range []struct {
		op, b int
		want  api.Span
		e     api.Errno
	}{
		{api.OpExp, 0, api.Span{Lo: b64(1), Hi: b64(1)}, 0},
		{api.OpExp, b64(710), api.Span{Lo: b64(math.MaxFloat64), Hi: api.Inf}, 0},
		{api.OpLog, 0, api.Span{}, api.ErrArg},
		{api.OpAdd, 0, api.Span{}, api.ErrOp},
	} {
		if got, e := elem.Around(x.op, x.b, 64); got != x.want || e != x.e {
			t.Errorf("Around %d: %#x, %v", i, got, e)
		}
	}
}
