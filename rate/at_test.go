package rate_test

import (
	"math"
	"math/rand"
	"testing"

	"pupil/api"
)

// TestP1802Errors: ErrRule ahead of ErrArg, ErrArg ahead of ErrInf; beside each the rate is 0.
func TestP1802Errors(t *testing.T) {
	steps := []int{math.MinInt, math.MinInt + 1, -api.MaxStep, -1, api.MaxStep + 1, 1 << 41, 1<<62 + 5, math.MaxInt - 1, math.MaxInt}
	for _, kind := range kinds {
		for _, step := range steps {
			s := right(kind)
			wantAt(t, s, step, 0, api.ErrArg)
			s.Warm = api.MaxStep
			wantAt(t, s, step, 0, api.ErrArg)
			s.Base = api.NaN
			wantAt(t, s, step, 0, api.ErrRule)
		}
		s := right(kind)
		for _, step := range []int{0, 1, api.MaxStep - 1, api.MaxStep} {
			if _, e := held(t, s, step); e != api.OK {
				t.Errorf("the step %d: %v", step, e)
			}
		}
	}
	great := api.Schedule{Kind: api.RateSteps, Base: bitsOf(1), Factor: most, Every: 1}
	wantAt(t, great, 1, most, api.OK)
	wantAt(t, great, 2, 0, api.ErrInf)
	wantAt(t, great, api.MaxStep, 0, api.ErrInf)
	for _, step := range steps {
		wantAt(t, great, step, 0, api.ErrArg)
	}
	great.Total = -1
	wantAt(t, great, 2, 0, api.ErrRule)
	wantAt(t, great, -1, 0, api.ErrRule)
}

// TestP1802Warm: below Warm a share of Base, whatever the kind; from there on the kind's rates, from its first.
func TestP1802Warm(t *testing.T) {
	for _, kind := range kinds {
		s := right(kind)
		s.Warm, s.Base = 8, bitsOf(6)
		for step := range 8 {
			wantRate(t, s, step, 6*float64(step+1)/8)
		}
		for step := 8; step < 20; step++ {
			later := s
			later.Warm = 0
			want, _ := wanted(later, step-8)
			wantAt(t, s, step, want, api.OK)
		}
		wantRate(t, s, 8, 6)
		s.Warm = 1
		wantRate(t, s, 0, 6)
		wantRate(t, s, 1, 6)
		s.Warm, s.Base = api.MaxStep, bitsOf(1)
		wantRate(t, s, 0, 0x1p-40)
		wantRate(t, s, api.MaxStep-1, 1)
		wantRate(t, s, api.MaxStep, 1)
		s.Warm = api.MaxStep - 1
		for _, step := range []int{1, 2, api.MaxStep / 3, api.MaxStep - 3, api.MaxStep - 2, api.MaxStep - 1, api.MaxStep} {
			held(t, s, step)
		}
	}
}

// TestP1802WarmRounds: a share is rounded once, subnormals and middles too.
func TestP1802WarmRounds(t *testing.T) {
	for _, c := range []struct{ base, warm, step, want int }{
		{1, 2, 0, 0}, {3, 2, 0, 2}, {5, 2, 0, 2}, {7, 2, 0, 4}, {1, 3, 1, 1}, {1, 3, 0, 0}, {most, 7, 6, most}, {minus, 2, 0, 0}, {0, 2, 0, 0}, {minus, 2, 2, 0},
		{bitsOf(1), 3, 0, 0x3FD5555555555555}, {bitsOf(1), 3, 1, 0x3FE5555555555555},
		{bitsOf(1) + 1, 4, 2, bitsOf(0.75) + 2}, // 3 (2^52 + 1) is just between two
	} {
		wantAt(t, api.Schedule{Base: c.base, Warm: c.warm}, c.step, c.want, api.OK)
	}
	// Base times 10, ahead of the quotient, is beyond the floats, and 7 of these have no float of their own.
	s := api.Schedule{Base: most, Warm: 11}
	for step := range 12 {
		held(t, s, step)
	}
}

// TestP1802Constant: the base, at all steps, whatever the kind does not use; of -0 it is 0.
func TestP1802Constant(t *testing.T) {
	for _, base := range []int{0, least, 1<<52 - 1, bitsOf(0.1), bitsOf(1), most} {
		for _, s := range []api.Schedule{{Base: base}, {Base: base, Factor: most, Every: 3, Total: 2}} {
			for _, step := range []int{0, 1, 2, 3, 1000, api.MaxStep} {
				wantAt(t, s, step, base, api.OK)
			}
		}
	}
}

// TestP1802BaseMinus: no kind tells -0.
func TestP1802BaseMinus(t *testing.T) {
	for _, kind := range kinds {
		for _, factor := range []int{0, minus} {
			s := right(kind)
			s.Base, s.Factor, s.Warm, s.Every, s.Total = minus, factor, 3, 2, 5
			for step := range 30 {
				wantAt(t, s, step, 0, api.OK)
			}
		}
	}
	s := api.Schedule{Kind: api.RateTriangle, Base: bitsOf(1), Factor: minus, Every: 2}
	for step, want := range []float64{1, 0.5, 0, 0.5, 1} {
		wantRate(t, s, step, want)
	}
	s = api.Schedule{Kind: api.RateSteps, Base: bitsOf(1), Factor: minus, Every: 1}
	for step, want := range []float64{1, 0, 0, 0} {
		wantRate(t, s, step, want)
	}
}

// TestP1802Steps: the factor comes in just at each whole time of Every.
func TestP1802Steps(t *testing.T) {
	s := api.Schedule{Kind: api.RateSteps, Base: bitsOf(3), Factor: bitsOf(0.5), Every: 7, Warm: 5}
	for j := range 60 {
		for i := range 7 {
			wantRate(t, s, 5+7*j+i, math.Ldexp(3, -j))
		}
	}
	s.Every = api.MaxStep
	wantRate(t, s, api.MaxStep, 3)
	s.Warm = 0
	wantRate(t, s, api.MaxStep-1, 3)
	wantRate(t, s, api.MaxStep, 1.5)
	for _, base := range []float64{1, 0.1, 1e-300, 5e-324, 1e300} {
		for _, factor := range []float64{0.3, 1, 1.1, 1e-10, 0, 5e-324} {
			s := api.Schedule{Kind: api.RateSteps, Base: bitsOf(base), Factor: bitsOf(factor), Every: 3}
			wantRate(t, s, 2, base)
			wantRate(t, s, 3, base*factor)
			wantRate(t, s, 5, base*factor)
		}
	}
}

// TestP1802StepsMost: the factor comes in 900 times at the most.
func TestP1802StepsMost(t *testing.T) {
	for _, every := range []int{1, 2, 1000} {
		s := api.Schedule{Kind: api.RateSteps, Base: bitsOf(1), Factor: bitsOf(0.5), Every: every}
		for j, want := range map[int]int{898: -898, 899: -899, 900: -900, 901: -900, 902: -900, 5000: -900} {
			for _, step := range []int{j * every, j*every + every - 1} {
				wantRate(t, s, step, math.Ldexp(1, want))
			}
		}
		wantRate(t, s, api.MaxStep, 0x1p-900)
		s.Factor = bitsOf(2)
		wantRate(t, s, 899*every, 0x1p899)
		wantRate(t, s, 901*every, 0x1p900)
		wantRate(t, s, api.MaxStep, 0x1p900)
		s.Base = least
		wantRate(t, s, api.MaxStep, 0x1p-174)
		s.Base, s.Factor = bitsOf(0x1p-1000), bitsOf(4)
		wantRate(t, s, api.MaxStep, 0x1p800)
	}
}

// TestP1802StepsLong: powers that have as many bits as there can be are rounded once, from exact ones.
func TestP1802StepsLong(t *testing.T) {
	twice := 0
	for _, base := range []int{bitsOf(1), most, bitsOf(0.1), 1<<52 - 1, bitsOf(1e-150), least} {
		for _, factor := range []int{bitsOf(1) - 1, bitsOf(1) + 1, bitsOf(0.99), bitsOf(0.9), bitsOf(1.1), bitsOf(0.5) - 1, bitsOf(2) + 1, least, 1<<52 - 1, most, bitsOf(1e-3), bitsOf(3)} {
			s := api.Schedule{Kind: api.RateSteps, Base: base, Factor: factor, Every: 1}
			for _, j := range []int{2, 3, 17, 64, 255, 511, 767, 899, 900, 901, 1023} {
				want, e := held(t, s, j)
				single := value(base)
				for range min(j, 900) {
					single *= value(factor)
				}
				if e == api.OK && want != 0 && want != bitsOf(single) {
					twice++
				}
			}
		}
	}
	if twice < 100 {
		t.Errorf("only %d rates tell one rounding from many", twice)
	}
}

// TestP1802StepsEnds: rates at both ends of the floats, and just between two of them.
func TestP1802StepsEnds(t *testing.T) {
	// (2^27 - 1) (2^27 + 1) is 2^54 - 1: with 2^970 it lies in the middle between the greatest float and 2^1024.
	top, next := float64(1<<27-1), math.Ldexp(1<<27+1, 970)
	for _, c := range []struct {
		base, factor, j, want int
		e                     api.Errno
	}{
		{bitsOf(top), bitsOf(next), 1, 0, api.ErrInf},
		{bitsOf(top), bitsOf(next) - 1, 1, most - 1, api.OK}, // 2^54 - 5 and a little
		{bitsOf(top), bitsOf(next) + 1, 1, 0, api.ErrInf},
		{most, bitsOf(1), 900, most, api.OK}, {most, bitsOf(1) + 1, 1, 0, api.ErrInf}, {bitsOf(0x1p1023), bitsOf(2), 1, 0, api.ErrInf}, {bitsOf(0x1p124), bitsOf(2), 900, 0, api.ErrInf}, {bitsOf(0x1p123), bitsOf(2), 900, bitsOf(0x1p1023), api.OK}, {least, most, 900, 0, api.ErrInf}, {0, most, 900, 0, api.OK},
		{1, bitsOf(0.5), 1, 0, api.OK}, {1, bitsOf(0.5) + 1, 1, 1, api.OK}, {1, bitsOf(0.5) - 1, 1, 0, api.OK}, {3, bitsOf(0.5), 1, 2, api.OK}, {5, bitsOf(0.5), 1, 2, api.OK}, {5, bitsOf(0.5), 2, 1, api.OK}, {6, bitsOf(0.5), 2, 2, api.OK}, {10, bitsOf(0.5), 2, 2, api.OK}, {1, bitsOf(1.5), 1, 2, api.OK}, {1, bitsOf(1.5), 2, 2, api.OK}, {3, bitsOf(1.5), 1, 4, api.OK},
		{bitsOf(0x1p-174), bitsOf(0.5), 900, least, api.OK}, {bitsOf(0x1p-175), bitsOf(0.5), 900, 0, api.OK}, {bitsOf(0x1p-175) + 1, bitsOf(0.5), 900, least, api.OK}, {bitsOf(0x1p-176), bitsOf(0.5), 900, 0, api.OK}, {most, least, 900, 0, api.OK},
		{bitsOf(1) + 1, bitsOf(1.5), 1, bitsOf(1.5) + 2, api.OK}, {bitsOf(1) + 3, bitsOf(1.5), 1, bitsOf(1.5) + 4, api.OK}, // 1.5 and 4.5 units: just between two
		{bitsOf(7), 0, 0, bitsOf(7), api.OK}, {bitsOf(7), 0, 1, 0, api.OK}, {0, 0, 0, 0, api.OK},
	} {
		wantAt(t, api.Schedule{Kind: api.RateSteps, Base: c.base, Factor: c.factor, Every: 1}, c.j, c.want, c.e)
	}
}

// TestP1802Linear: what is left of Total, as a part of it; 0 from Total on.
func TestP1802Linear(t *testing.T) {
	s := api.Schedule{Kind: api.RateLinear, Base: bitsOf(12), Factor: most, Total: 100, Warm: 9}
	for k := range 100 {
		wantRate(t, s, 9+k, 12*float64(100-k)/100)
	}
	for _, k := range []int{100, 101, 1000, api.MaxStep - 9} {
		wantRate(t, s, 9+k, 0)
	}
	s = api.Schedule{Kind: api.RateLinear, Base: bitsOf(1), Total: api.MaxStep}
	wantRate(t, s, api.MaxStep-1, 0x1p-40)
	wantRate(t, s, api.MaxStep, 0)
	wantRate(t, s, 1, 1-0x1p-40)
	for _, c := range []struct{ base, total, k, want int }{{1, 2, 1, 0}, {3, 2, 1, 2}, {5, 2, 1, 2}, {1, 3, 1, 1}, {1, 3, 2, 0}, {most, 2, 1, most - 1<<52}, {bitsOf(1) + 1, 4, 1, bitsOf(0.75) + 2}, {least, 1, 0, least}, {least, 1, 1, 0}} {
		wantAt(t, api.Schedule{Kind: api.RateLinear, Base: c.base, Total: c.total}, c.k, c.want, api.OK)
	}
}

// TestP1802Power: powers of what is left, each from 1 to 8; 0 from Total on.
func TestP1802Power(t *testing.T) {
	for every := 1; every <= 8; every++ {
		s := api.Schedule{Kind: api.RatePower, Base: bitsOf(1), Factor: most, Total: 16, Every: every, Warm: 2}
		for k := range 16 {
			wantRate(t, s, 2+k, math.Pow(float64(16-k)/16, float64(every)))
		}
		for _, k := range []int{16, 17, 32, api.MaxStep - 2} {
			wantRate(t, s, 2+k, 0)
		}
		s = api.Schedule{Kind: api.RatePower, Base: bitsOf(1), Total: api.MaxStep, Every: every}
		wantRate(t, s, api.MaxStep-1, math.Ldexp(1, -40*every))
		wantRate(t, s, api.MaxStep, 0)
		for _, base := range []int{least, most, bitsOf(0.1), bitsOf(0x1p-800), 1<<52 + 3} {
			for _, total := range []int{1, 2, 3, 7, 1000, 999_999_999_999, api.MaxStep - 1} {
				s := api.Schedule{Kind: api.RatePower, Base: base, Total: total, Every: every}
				for _, k := range []int{0, 1, total / 3, total / 2, total - 2, total - 1, total, total + 1} {
					held(t, s, max(0, k))
				}
			}
		}
	}
	for _, c := range []struct{ base, total, every, k, want int }{{1, 2, 1, 1, 0}, {3, 2, 1, 1, 2}, {6, 2, 2, 1, 2}, {10, 2, 2, 1, 2}, {128, 2, 8, 1, 0}, {129, 2, 8, 1, 1}, {384, 2, 8, 1, 2}, {bitsOf(1) + 1, 4, 1, 1, bitsOf(0.75) + 2}} {
		wantAt(t, api.Schedule{Kind: api.RatePower, Base: c.base, Total: c.total, Every: c.every}, c.k, c.want, api.OK)
	}
}

// bases are floats of all sizes.
func bases() []int {
	list := []int{0, minus, 1, 2, 3, 5, 6, 7, 9, 15, 1<<52 - 1, 1 << 52, 1<<52 + 1, most, most - 1, bitsOf(1), bitsOf(1) + 1, bitsOf(1) + 3, bitsOf(1) - 1, bitsOf(3), bitsOf(0.1)}
	r := rand.New(rand.NewSource(1802))
	for range 200 {
		list = append(list, anyBase(r))
	}
	return list
}

// TestP1802RootWhole: where Every and Every + k are squares, the root is a part of Base, which a single operation tells.
func TestP1802RootWhole(t *testing.T) {
	for _, base := range bases() {
		b := math.Abs(value(base))
		for _, c := range []struct {
			every, k int
			want     float64
		}{
			{1, 0, b}, {5, 0, b}, {api.MaxStep, 0, b},
			{1, 3, b / 2}, {1, 8, b / 3}, {1, 15, b / 4}, {4, 12, b / 2}, {9, 7, b * 0.75}, {25, 39, b * 0.625}, {1, 48, b / 7},
			{1, 1<<40 - 1, b / (1 << 20)}, {2, 6, b / 2}, {3, 24, b / 3}, {4096, 1<<40 - 4096, b / (1 << 14)},
		} {
			s := api.Schedule{Kind: api.RateRoot, Base: base, Factor: most, Every: c.every, Total: 1}
			wantRate(t, s, c.k, c.want)
			s.Warm = min(4, api.MaxStep-c.k)
			wantRate(t, s, s.Warm+c.k, c.want)
		}
	}
}

// TestP1802RootOnce: roots that are no floats are rounded once.
func TestP1802RootOnce(t *testing.T) {
	twice := 0
	for i, base := range bases() {
		for _, every := range []int{1, 2, 3, 10, 1000, api.MaxStep - 1, api.MaxStep} {
			s := api.Schedule{Kind: api.RateRoot, Base: base, Every: every}
			for _, k := range []int{1, 2, 7, 100 + i, every, 3 * every, 1<<40 - 7, api.MaxStep} {
				k = min(k, api.MaxStep)
				want, _ := held(t, s, k)
				if want != bitsOf(math.Abs(value(base)*math.Sqrt(float64(every)/float64(every+k)))) {
					twice++
				}
			}
		}
	}
	if twice < 1000 {
		t.Errorf("only %d roots tell one rounding from many", twice)
	}
	for _, c := range []struct{ base, every, k, want int }{{1, 1, 2, 1}, {1, 1, 3, 0}, {1, 1, 4, 0}, {1, 1000, 2999, 1}, {1, 1000, 3000, 0}, {1, 1000, 3001, 0}, {3, 1, 3, 2}, {5, 1, 3, 2}, {bitsOf(1), 1, 1, bitsOf(math.Sqrt2 / 2)}, {most, 1, 3, most - 1<<52}} {
		wantAt(t, api.Schedule{Kind: api.RateRoot, Base: c.base, Every: c.every}, c.k, c.want, api.OK)
	}
}

// TestP1802Triangle: up to Factor and back to Base, again and again.
func TestP1802Triangle(t *testing.T) {
	for _, c := range [][2]float64{{0, 8}, {8, 0}, {1, 9}, {9, 1}, {5, 5}, {0, 0}, {1, 1 << 50}, {1 << 50, 1}} {
		s := api.Schedule{Kind: api.RateTriangle, Base: bitsOf(c[0]), Factor: bitsOf(c[1]), Every: 8, Total: 3, Warm: 6}
		for k := range 100 {
			q := min(k%16, 16-k%16)
			wantRate(t, s, 6+k, c[0]+(c[1]-c[0])*float64(q)/8)
		}
		for k := range 8 {
			wantRate(t, s, 6+8*k, c[k%2])
		}
		s.Every = 1
		for k := range 9 {
			wantRate(t, s, 6+k, c[k%2])
		}
		s.Every, s.Warm = api.MaxStep, 0
		wantRate(t, s, 0, c[0])
		wantRate(t, s, api.MaxStep, c[1])
		wantRate(t, s, api.MaxStep/2, (c[0]+c[1])/2)
	}
}

// TestP1802TriangleOnce: rounded once, also where Base and Factor are far from each other.
func TestP1802TriangleOnce(t *testing.T) {
	ends := []int{0, least, 2, 3, 1<<52 - 1, bitsOf(1), bitsOf(1) + 1, bitsOf(0.1), bitsOf(1e-200), bitsOf(1e200), most - 1, most}
	for _, base := range ends {
		for _, factor := range ends {
			for _, every := range []int{1, 2, 3, 7, 1000, api.MaxStep/2 - 1, api.MaxStep} {
				s := api.Schedule{Kind: api.RateTriangle, Base: base, Factor: factor, Every: every}
				for _, k := range []int{0, 1, 2, every / 3, every - 1, every, every + 1, 2*every - 1, 2 * every, 2*every + 1, 5*every + 1} {
					held(t, s, max(0, min(k, api.MaxStep)))
				}
			}
		}
	}
	for _, c := range []struct{ base, factor, want int }{{0, 1, 0}, {1, 0, 0}, {1, 2, 2}, {2, 3, 2}, {bitsOf(1), bitsOf(1) + 1, bitsOf(1)}, {bitsOf(1) + 1, bitsOf(1) + 2, bitsOf(1) + 2}, {most, most, most}, {most, most - 1, most - 1}, {least, most, most - 1<<52}} {
		wantAt(t, api.Schedule{Kind: api.RateTriangle, Base: c.base, Factor: c.factor, Every: 2}, 1, c.want, api.OK)
	}
}

// TestP1802All: many schedules of each kind, at many steps.
func TestP1802All(t *testing.T) {
	for _, kind := range kinds {
		r := rand.New(rand.NewSource(int64(kind)))
		many := 4000
		if kind == api.RateSteps {
			many = 1000
		}
		seen := map[api.Errno]int{}
		for range many {
			s := anySchedule(r, kind)
			for range 5 {
				_, e := held(t, s, anyStep(r, s))
				seen[e]++
			}
		}
		if seen[api.OK] < many || kind == api.RateSteps && seen[api.ErrInf] < 100 {
			t.Errorf("kind %d: %v", kind, seen)
		}
	}
}
