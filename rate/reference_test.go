package rate_test

import (
	"math"
	"math/big"
	"math/rand"
	"testing"

	"pupil/api"
	"pupil/rate"
)

// The reference reads the chapter's words in rational numbers; powers of floats, which these are slow with, in big floats that have all of them.

const (
	minus = -1 << 63 // the bits of -0
	least = 1        // the least float above 0
	most  = api.Inf - 1
)

var kinds = []int{api.RateConstant, api.RateSteps, api.RateLinear, api.RateRoot, api.RateTriangle, api.RatePower}

func bitsOf(f float64) int { return int(math.Float64bits(f)) }

func value(b int) float64 { return math.Float64frombits(uint64(b)) }

func finite(f float64) bool { return !math.IsNaN(f) && !math.IsInf(f, 0) }

func ratio(n, d int) *big.Rat { return big.NewRat(int64(n), int64(d)) }

func ratOf(b int) *big.Rat { return new(big.Rat).SetFloat64(value(b)) }

func times(a, b *big.Rat) *big.Rat { return new(big.Rat).Mul(a, b) }

// nearest tells the bits of the float that is nearest to a rational number.
func nearest(x *big.Rat) int {
	f, _ := x.Float64()
	return bitsOf(f)
}

// nearestRoot tells that of a root: more bits of it than floats and the middles between them have, and one behind these, if there is more.
func nearestRoot(x *big.Rat) int {
	const enough = 300
	shift := uint(max(0, enough+x.Denom().BitLen()-x.Num().BitLen()))
	left := new(big.Int)
	whole, _ := new(big.Int).QuoRem(new(big.Int).Lsh(x.Num(), 2*shift), x.Denom(), left)
	n := new(big.Int).Sqrt(whole)
	more := left.Sign() != 0 || new(big.Int).Mul(n, n).Cmp(whole) != 0
	n.Lsh(n, 1)
	if more {
		n.SetBit(n, 0, 1)
	}
	exact := new(big.Float).SetPrec(uint(n.BitLen() + 1)).SetInt(n)
	f, _ := exact.SetMantExp(exact, -int(shift)-1).Float64()
	return bitsOf(f)
}

// nearestPower tells that of b times the j-th power of f, of at most 900.
func nearestPower(b, f, j int) int {
	const all = 53 * 901
	large := func(b int) *big.Float { return new(big.Float).SetPrec(all).SetFloat64(value(b)) }
	x := new(big.Float).SetPrec(all).Abs(large(b))
	for range j {
		x.Mul(x, large(f))
	}
	told, _ := x.Abs(x).Float64()
	return bitsOf(told)
}

// isSchedule is Check by the chapter's words.
func isSchedule(s api.Schedule) api.Errno {
	k := s.Kind
	wrong := k < 0 || k > 5
	for _, b := range []int{s.Base, s.Factor} {
		wrong = wrong || !finite(value(b)) || value(b) < 0
	}
	for _, n := range []int{s.Warm, s.Every, s.Total} {
		wrong = wrong || n < 0 || n > api.MaxStep
	}
	wrong = wrong || s.Every == 0 && (k == api.RateSteps || k == api.RateRoot || k == api.RateTriangle || k == api.RatePower)
	wrong = wrong || s.Every > 8 && k == api.RatePower
	if wrong || s.Total == 0 && (k == api.RateLinear || k == api.RatePower) {
		return api.ErrRule
	}
	return api.OK
}

// reckoned is the rate of a schedule and a step that are right, by the chapter's words.
func reckoned(s api.Schedule, step int) int {
	base, factor := ratOf(s.Base), ratOf(s.Factor)
	if step < s.Warm {
		return nearest(times(base, ratio(step+1, s.Warm)))
	}
	k := step - s.Warm
	switch s.Kind {
	case api.RateSteps:
		return nearestPower(s.Base, s.Factor, min(k/s.Every, 900))
	case api.RateLinear:
		if k >= s.Total {
			return 0
		}
		return nearest(times(base, ratio(s.Total-k, s.Total)))
	case api.RateRoot:
		return nearestRoot(times(times(base, base), ratio(s.Every, s.Every+k)))
	case api.RateTriangle:
		p := k % (2 * s.Every)
		q := min(p, 2*s.Every-p)
		reach := new(big.Rat).Sub(factor, base)
		return nearest(base.Add(base, times(reach, ratio(q, s.Every))))
	case api.RatePower:
		if k >= s.Total {
			return 0
		}
		for range s.Every {
			base = times(base, ratio(s.Total-k, s.Total))
		}
	}
	return nearest(base)
}

// wanted is At by the chapter's words.
func wanted(s api.Schedule, step int) (int, api.Errno) {
	if e := isSchedule(s); e != api.OK {
		return 0, e
	}
	if step < 0 || step > api.MaxStep {
		return 0, api.ErrArg
	}
	b := reckoned(s, step)
	if b == api.Inf {
		return 0, api.ErrInf
	}
	return b, api.OK
}

// wantAt wants At to tell an answer.
func wantAt(t *testing.T, s api.Schedule, step, want int, e api.Errno) {
	t.Helper()
	if got, f := rate.At(s, step); got != want || f != e {
		t.Errorf("At(%+v, %d): %#x, %v, want %#x, %v", s, step, got, f, want, e)
	}
}

// wantRate wants At to tell a rate.
func wantRate(t *testing.T, s api.Schedule, step int, want float64) {
	t.Helper()
	wantAt(t, s, step, bitsOf(want), api.OK)
}

// held holds At against the reference, and tells what both say.
func held(t *testing.T, s api.Schedule, step int) (int, api.Errno) {
	t.Helper()
	want, e := wanted(s, step)
	wantAt(t, s, step, want, e)
	return want, e
}

// right tells a schedule of a kind that is one, as short as can be.
func right(kind int) api.Schedule {
	return api.Schedule{Kind: kind, Base: bitsOf(1), Factor: bitsOf(0.5), Every: 1, Total: 1}
}

// anyBase tells bits of a float that may be a schedule's: ordinary ones, subnormals, those at the ends.
func anyBase(r *rand.Rand) int {
	switch r.Intn(6) {
	case 0:
		return r.Intn(api.Inf)
	case 1:
		return r.Intn(1 << r.Intn(53))
	case 2:
		return []int{0, minus, least, 2, 3, 1<<52 - 1, 1 << 52, 1<<52 + 1, most, most - 1, bitsOf(1), bitsOf(1) - 1, bitsOf(1) + 1}[r.Intn(13)]
	case 3:
		return bitsOf(float64(1 + r.Intn(64)))
	}
	return bitsOf(math.Ldexp(1+r.Float64(), r.Intn(40)-20))
}

// anyCount tells a number of steps, from a few to MaxStep.
func anyCount(r *rand.Rand, from int) int {
	switch r.Intn(8) {
	case 0:
		return api.MaxStep - r.Intn(3)
	case 1:
		return max(from, r.Intn(api.MaxStep))
	case 2:
		return from + r.Intn(3)
	}
	return from + r.Intn(1<<r.Intn(14))
}

// anySchedule tells one of a kind.
func anySchedule(r *rand.Rand, kind int) api.Schedule {
	s := api.Schedule{Kind: kind, Base: anyBase(r), Factor: anyBase(r), Every: anyCount(r, 1), Total: anyCount(r, 1)}
	if r.Intn(2) == 0 {
		s.Warm = anyCount(r, 0)
	}
	if kind == api.RatePower {
		s.Every = 1 + r.Intn(8)
	}
	if kind == api.RateSteps && r.Intn(2) == 0 {
		s.Factor = bitsOf(0.5 + r.Float64())
	}
	return s
}

// anyStep tells one that says something of a schedule: near its turns, or somewhere.
func anyStep(r *rand.Rand, s api.Schedule) int {
	from := []int{0, s.Warm, s.Warm, s.Warm + s.Every, s.Warm + 2*s.Every, s.Warm + s.Total, s.Warm + s.Every*r.Intn(1000), r.Intn(2*s.Warm + 1), s.Warm + r.Intn(2*s.Total+1), api.MaxStep}
	return min(max(0, from[r.Intn(len(from))]+r.Intn(5)-2), api.MaxStep)
}
