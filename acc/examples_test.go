package acc_test

import (
	"math"
	"testing"

	"pupil/acc"
	"pupil/api"
)

// TestExamples: the chapter's table, line by line.
func TestExamples(t *testing.T) {
	type told struct {
		b int
		e api.Errno
	}
	float := func(b int, e api.Errno) told { return told{b, e} }
	list := func(l ...float64) []int {
		var out []int
		for _, f := range l {
			out = append(out, b64(f))
		}
		return out
	}
	inf, none := math.Inf(1), math.NaN()
	one, plus := api.Acc{Sum: num(false, 1, 0)}, api.Acc{Plus: true}
	for i, x := range []struct{ got, want told }{
		{float(acc.Round(api.Acc{}, 64)), told{}},
		{float(acc.Sum(list(math.Copysign(0, -1)), 64)), told{}},
		{float(acc.Sum(list(1, 0x1p-53, 0x1p-53), 64)), told{b64(1 + 0x1p-52), 0}},
		{float(acc.Sum(list(0x1p1023, 0x1p1023, -0x1p1023), 64)), told{b64(0x1p1023), 0}},
		{float(acc.Sum(list(inf, 1), 64)), told{api.Inf, 0}},
		{float(acc.Sum(list(inf, -inf), 64)), told{api.NaN, 0}},
		{float(acc.Sum(list(none, inf), 64)), told{api.NaN, 0}},
		{float(acc.Dot(list(0x1p600, 3, 0x1p600), list(0x1p600, 5, -0x1p600), 64)), told{b64(15), 0}},
		{float(acc.Dot(list(inf), list(0), 64)), told{api.NaN, 0}},
		{float(acc.Dot(list(1), list(1, 2), 64)), told{0, api.ErrArg}},
		{float(acc.Mean(one, 3, 64)), told{0x3FD5555555555555, 0}},
		{float(acc.Mean(one, 0, 64)), told{0, api.ErrDivide}},
		{float(acc.Mean(plus, 3, 64)), told{api.Inf, 0}},
		{float(acc.Mean(one, -1, 64)), told{0, api.ErrNegative}},
	} {
		if x.got != x.want {
			t.Errorf("float %d: %#x, %v", i, x.got.b, x.got.e)
		}
	}
	for i, x := range []struct {
		a    api.Acc
		f    float64
		want api.Acc
	}{
		{plus, -2, api.Acc{Minus: true}},
		{plus, 0, api.Acc{None: true}},
		{api.Acc{Sum: num(false, 3, 0)}, -inf, api.Acc{Minus: true}},
		{api.Acc{}, inf, api.Acc{None: true}},
		{api.Acc{Sum: num(true, 3, 0), Plus: true}, inf, plus},
	} {
		if got, e := acc.Times(x.a, b64(x.f), 64); e != api.OK || !same(got, x.want) {
			t.Errorf("Times %d: %v, %v", i, got, e)
		}
	}
	if got, e := acc.Add(api.Acc{}, -1, 32); e != api.ErrBits || !isZero(got) {
		t.Errorf("Add(empty, -1, 32): %v, %v", got, e)
	}
	if got, e := acc.Add(api.Acc{}, 0, 7); e != api.ErrWidth || !isZero(got) {
		t.Errorf("Add(empty, 0, 7): %v, %v", got, e)
	}
}
