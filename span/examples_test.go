package span_test

import (
	"math"
	"testing"

	"pupil/api"
	"pupil/span"
)

// TestExamples: the chapter's table, line by line.
func TestExamples(t *testing.T) {
	s := func(lo, hi float64) api.Span { return pair(lo, hi, 64) }
	for i, x := range []struct {
		s  api.Span
		w  int
		ok bool
	}{
		{s(1, 2), 64, true}, {s(2, 1), 64, false}, {s(math.NaN(), 1), 64, false}, {s(inf, inf), 64, false}, {s(-inf, inf), 64, true}, {s(0, nought), 64, true}, {api.Span{}, 9, false},
	} {
		if span.Valid(x.s, x.w) != x.ok {
			t.Errorf("Valid %d: %t", i, !x.ok)
		}
	}
	for i, x := range []struct {
		f       func(s, t api.Span, w int) (api.Span, api.Errno)
		a, b, c api.Span
		e       api.Errno
	}{
		{span.Add, s(1, 1), s(0x1p-60, 0x1p-60), s(1, 1+0x1p-52), api.OK},
		{span.Mul, s(-1, 2), s(-3, 4), s(-6, 8), api.OK},
		{span.Mul, s(0, inf), s(0, 1), s(0, inf), api.OK},
		{span.Div, s(1, 2), s(4, 8), s(0.125, 0.5), api.OK},
		{span.Div, s(1, 1), s(3, 3), api.Span{Lo: 0x3FD5555555555555, Hi: 0x3FD5555555555556}, api.OK},
		{span.Div, s(1, 2), s(-1, 1), api.Span{}, api.ErrDivide},
		{span.Div, s(-1, inf), s(2, inf), s(-0.5, inf), api.OK},
		{span.Join, s(0, 1), s(2, 3), s(0, 3), api.OK},
	} {
		if got, e := x.f(x.a, x.b, 64); got != x.c || e != x.e {
			t.Errorf("%d: %#x, %v", i, got, e)
		}
	}
	sum, e := span.Sum([]api.Span{s(1, 1), s(0x1p-60, 0x1p-60), s(-1, -1)}, 64)
	wants(t, sum, e, s(0x1p-60, 0x1p-60), "Sum")
	met, ok, e := span.Meet(s(0, 1), s(1, 2), 64)
	if wants(t, met, e, s(1, 1), "Meet"); !ok {
		t.Error("Meet of two that touch is false")
	}
	met, ok, e = span.Meet(s(0, 1), s(2, 3), 64)
	if wants(t, met, e, api.Span{}, "Meet"); ok {
		t.Error("Meet of two apart is true")
	}
}

// TestExamplesAsked: the table's last line.
func TestExamplesAsked(t *testing.T) {
	s := func(lo, hi float64) api.Span { return pair(lo, hi, 64) }
	for i, x := range []struct {
		ask  func() (bool, api.Errno)
		want bool
	}{
		{func() (bool, api.Errno) { return span.Has(s(1, 1), power(0).plus(power(-60)).num(), 64) }, false},
		{func() (bool, api.Errno) { return span.Holds(s(0, 1), pattern(0.5, 64), 64) }, true},
		{func() (bool, api.Errno) { return span.Point(s(1, 1), 64) }, true},
		{func() (bool, api.Errno) { return span.Point(s(0, nought), 64) }, true},
	} {
		if got, e := x.ask(); got != x.want || e != api.OK {
			t.Errorf("%d: %t, %v", i, got, e)
		}
	}
}
