package optim_test

import (
	"math"
	"testing"

	"pupil/api"
	"pupil/optim"
)

// TestExamples: the chapter's table, line by line.
func TestExamples(t *testing.T) {
	half, n := bitsOf(0.5), func(f float64) int { return bitsOf(f) }
	want1(t, 64, api.Rule{Kind: api.RulePlain}, half, n(1), n(2), nil, 0)
	want1(t, 64, api.Rule{Kind: api.RuleMomentum, Momentum: half}, n(1), n(1), n(2), []int{n(4)}, n(-3), n(4))
	want1(t, 64, api.Rule{Kind: api.RuleNesterov, Momentum: half}, n(1), n(1), n(2), []int{n(4)}, n(-3), n(4))
	want1(t, 64, api.Rule{Kind: api.RuleAdagrad, Eps: n(1)}, n(1), 0, n(3), []int{0}, n(-0.75), n(9))
	want1(t, 64, api.Rule{Decay: n(1), Clip: n(2)}, n(1), n(5), n(1), nil, n(3))
	great := asked{rate: n(1), w: vals(64, math.MaxFloat64), g: vals(64, -math.MaxFloat64)}
	if got := great.step(); !got.same(answer{e: api.ErrInf}) {
		t.Errorf("the greatest less minus the greatest: %x", got)
	}
	for _, c := range []struct {
		r     api.Rule
		width int
	}{{api.Rule{Momentum: n(1)}, 64}, {api.Rule{Beta: n(1) - 1}, 32}, {api.Rule{Kind: api.RuleRms}, 64}} {
		if e := optim.Check(c.r, c.width); e != api.ErrRule {
			t.Errorf("Check(%+v, %d): %v", c.r, c.width, e)
		}
	}
	gs := list(vals(64, 6, 8))
	wantScale(t, n(5), gs, list(vals(64, 3, 4)), api.OK)
	wantScale(t, n(10), gs, gs, api.OK)
	wantScale(t, 0, gs, gs, api.OK)
}
