package rate_test

import (
	"math"
	"testing"

	"pupil/api"
	"pupil/rate"
)

// TestExamples: the chapter's table, line by line.
func TestExamples(t *testing.T) {
	one := bitsOf(1)
	for _, c := range []struct {
		s     api.Schedule
		steps []int
		rates []float64
	}{
		{api.Schedule{Kind: api.RateConstant, Base: one, Warm: 4}, []int{0, 1, 3, 4}, []float64{0.25, 0.5, 1, 1}},
		{api.Schedule{Kind: api.RateSteps, Base: one, Factor: bitsOf(0.5), Every: 10}, []int{9, 10, 25}, []float64{1, 0.5, 0.25}},
		{api.Schedule{Kind: api.RateLinear, Base: one, Total: 3}, []int{0, 1, 2, 3, 9}, []float64{1, value(0x3FE5555555555555), value(0x3FD5555555555555), 0, 0}},
		{api.Schedule{Kind: api.RateRoot, Base: bitsOf(3), Every: 1}, []int{0, 8}, []float64{3, 1}},
		{api.Schedule{Kind: api.RateTriangle, Factor: one, Every: 2}, []int{0, 1, 2, 3, 4}, []float64{0, 0.5, 1, 0.5, 0}},
		{api.Schedule{Kind: api.RatePower, Base: one, Total: 4, Every: 2}, []int{0, 1, 2}, []float64{1, 0.5625, 0.25}},
	} {
		for i, step := range c.steps {
			wantRate(t, c.s, step, c.rates[i])
		}
	}
	for _, s := range []api.Schedule{{Kind: api.RatePower, Base: one, Total: 4, Every: 9}, {Kind: api.RateLinear, Base: one}, {Kind: api.RateConstant, Base: bitsOf(-1)}} {
		wantAt(t, s, 0, 0, api.ErrRule)
		if e := rate.Check(s); e != api.ErrRule {
			t.Errorf("Check(%+v): %v", s, e)
		}
	}
	wantAt(t, api.Schedule{Kind: api.RateSteps, Base: one, Factor: bitsOf(math.MaxFloat64), Every: 1}, 2, 0, api.ErrInf)
}
