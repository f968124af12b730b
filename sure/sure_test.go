package sure_test

import (
	"cmp"
	"math"
	"testing"

	"pupil/api"
	"pupil/bits"
	"pupil/exact"
	"pupil/sure"
)

func pattern(f float64, w int) int { return bits.Convert(int(math.Float64bits(f)), 64, w) }

// TestCalls: each call tells what chapter 2's tells beside no error.
func TestCalls(t *testing.T) {
	for _, w := range []int{32, 64} {
		for _, f := range []float64{0, 1, -3, 0.375, 1e-40, -1e30} {
			for _, g := range []float64{0, 2, -0.25, 5e20} {
				a, b := sure.Of(pattern(f, w), w), sure.Of(pattern(g, w), w)
				for _, c := range []struct {
					got  api.Num
					call func(a, b api.Num) (api.Num, api.Errno)
				}{
					{sure.Add(a, b), exact.Add}, {sure.Sub(a, b), exact.Sub}, {sure.Mul(a, b), exact.Mul},
					{sure.Neg(a), func(a, _ api.Num) (api.Num, api.Errno) { return exact.Neg(a) }},
					{sure.Scale(a, -53), func(a, _ api.Num) (api.Num, api.Errno) { return exact.Scale(a, -53) }},
				} {
					want, e := c.call(a, b)
					if d, _ := exact.Cmp(c.got, want); e != api.OK || d != 0 {
						t.Errorf("%v and %v: %v, want %v", f, g, c.got, want)
					}
				}
				if sure.Round(a, w) != bits.Canon(pattern(f, w), w) || sure.Sign(b) != cmp.Compare(g, 0) {
					t.Errorf("Round, Sign of %v, %v: %x, %d", f, g, sure.Round(a, w), sure.Sign(b))
				}
			}
		}
		if sure.Round(sure.Int(-7), w) != pattern(-7, w) {
			t.Error("Int")
		}
	}
}

// TestQuot: a quotient, and one by 0.
func TestQuot(t *testing.T) {
	for _, w := range []int{32, 64} {
		for _, c := range [][3]float64{{1, 4, 0.25}, {-3, 2, -1.5}, {0, 5, 0}, {0, -5, 0}, {1, 0, math.Inf(1)}, {-1e-30, 0, math.Inf(-1)}} {
			if got := sure.Quot(sure.Of(pattern(c[0], w), w), sure.Of(pattern(c[1], w), w), w); got != pattern(c[2], w) {
				t.Errorf("%v by %v: %x", c[0], c[1], got)
			}
		}
		if bits.Class(sure.Quot(api.Num{}, api.Num{}, w), w) != api.IsNaN {
			t.Error("0 by 0 is a number")
		}
	}
}

// TestRootQuot: the root of a quotient.
func TestRootQuot(t *testing.T) {
	for _, w := range []int{32, 64} {
		for _, c := range [][3]float64{{1, 4, 0.5}, {9, 16, 0.75}, {0, 5, 0}, {-2, -8, 0.5}, {1e-40, 1e-40, 1}} {
			if got := sure.RootQuot(sure.Of(pattern(c[0], w), w), sure.Of(pattern(c[1], w), w), w); got != pattern(c[2], w) {
				t.Errorf("the root of %v by %v: %x", c[0], c[1], got)
			}
		}
	}
}
