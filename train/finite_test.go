package train_test

import (
	"math"
	"math/rand"
	"testing"

	"pupil/api"
	"pupil/train"
)

// wantFinite wants nothing in a state to be other than finite, and it to be a state.
func wantFinite(t *testing.T, p api.Plan, s api.Set, x api.State) {
	t.Helper()
	list := x.Params
	for _, l := range x.Slots {
		list = append(list, l...)
	}
	for _, m := range list {
		for _, b := range m.Bits {
			if !finite(b, m.Width) {
				t.Errorf("%x is not finite: %x", b, x)
			}
		}
	}
	wantIs(t, "what is told", p, s, x, api.OK)
}

// wild is a training of numbers of all sizes.
func wild(r *rand.Rand, width int) (api.Plan, api.Set) {
	size := func() int { return bitsOf(math.Ldexp(1+r.Float64(), r.Intn(200)-100)) }
	any := func(rows, cols int) api.Matrix {
		m := matrix(rows, cols, width)
		for range rows * cols {
			m.Bits = append(m.Bits, pattern(math.Ldexp(r.NormFloat64(), r.Intn(80)-40), width))
		}
		return m
	}
	p := mixed(width)
	p.Seed, p.Batch = r.Int(), 1+r.Intn(4)
	p.Inits[2].A = bitsOf(math.Ldexp(1, r.Intn(60)))
	p.Rule = api.Rule{Kind: r.Intn(6), Momentum: bitsOf(r.Float64() * 0.99), Beta: bitsOf(r.Float64() * 0.99), Eps: bitsOf(math.Ldexp(1, -r.Intn(40)))}
	if r.Intn(2) == 0 {
		p.Rule.Decay = bitsOf(math.Ldexp(1, r.Intn(60)-30))
	}
	if r.Intn(3) == 0 {
		p.Rule.Norm = size()
	}
	p.Schedule = api.Schedule{Kind: api.RateSteps, Base: size(), Factor: bitsOf(math.Ldexp(1, r.Intn(30))), Every: 1 + r.Intn(3)}
	return p, api.Set{X: any(6, 3), Y: any(6, 2)}
}

// TestP2110Wild: trainings that go astray: no state that is told has anything in it that is not finite, and where a step is refused all is as it was.
func TestP2110Wild(t *testing.T) {
	r := rand.New(rand.NewSource(2110))
	kinds := map[int]int{}
	for _, w := range widths {
		for range 150 {
			p, s := wild(r, w)
			if checkOf(p, s) != api.OK {
				continue
			}
			x := begun(t, p, s)
			wantFinite(t, p, s, x)
			for range 40 {
				before := cloned(x)
				y, trace, where, e := train.Step(p, s, x)
				if !sameState(x, before) {
					t.Fatal("a step has changed the state that it began with")
				}
				if e != api.OK {
					wantRefused(t, "a step", made(y, trace, where, e), where, e)
					want(t, "the same again", ran(train.Run(p, s, x, 3)), told{state: x, where: where, e: e})
					kinds[where.Kind]++
					break
				}
				wantFinite(t, p, s, y)
				x = y
			}
			all := ran(train.Run(p, s, begun(t, p, s), 40))
			wantFinite(t, p, s, all.state)
			if !sameState(all.state, x) {
				t.Errorf("Run tells %x, Step %x", all.state, x)
			}
		}
	}
	if kinds[api.InValue] == 0 || kinds[api.InAdjoint] == 0 || kinds[api.InParam] == 0 {
		t.Errorf("refusals: %v", kinds)
	}
}

// TestP2110Apply: parts of any sums make a state that is finite, or none.
func TestP2110Apply(t *testing.T) {
	r := rand.New(rand.NewSource(1))
	done := map[bool]int{}
	for _, w := range widths {
		a := plainly(t, w)
		for range 400 {
			b := a.copied()
			b.p.Rule = api.Rule{Kind: api.RulePlain, Decay: bitsOf(math.Ldexp(1, r.Intn(8)))}
			b.p.Schedule.Base = bitsOf(math.Ldexp(1, r.Intn(200)-100))
			for i, l := range b.part.Grads {
				for k := range l {
					v := b.x.Params[i].Width
					l[k] = times(pattern(math.Ldexp(r.NormFloat64(), r.Intn(180)-60), v), v, 1)
				}
			}
			got := b.apply()
			want(t, "the words", got, b.words())
			if got.e == api.OK {
				wantFinite(t, b.p, b.s, got.state)
			}
			done[got.e == api.OK]++
		}
	}
	if done[true] < 20 || done[false] < 20 {
		t.Errorf("%v", done)
	}
}
