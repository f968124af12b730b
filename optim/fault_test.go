package optim_test

import (
	"math"
	"testing"

	"pupil/api"
)

// spot is an element that does not come out finite.
type spot struct {
	name       string
	r          api.Rule
	rate       int
	w, g, v, s float64
	p, q       float64
	e          api.Errno
}

// spots are such elements of all rules; great stands for the width's greatest float. No v' and no s' is ever no number: shares of what is finite are finite.
func spots(great float64) []spot {
	half, tiny := bitsOf(0.5), bitsOf(1e-3)
	clipped := bitsOf(1)
	return []spot{
		{"w above", api.Rule{}, one, great, -great, 0, 0, 0, 0, api.ErrInf},
		{"w below", api.Rule{}, one, -great, great, 0, 0, 0, 0, api.ErrInf},
		{"w, by the rate", api.Rule{}, bitsOf(1e30), 0, great, 0, 0, 0, 0, api.ErrInf},
		{"w, by decay", api.Rule{Decay: bitsOf(4)}, tiny, great, 0, 0, 0, 0, 0, api.ErrInf},
		{"w no number, by decay without a rate", api.Rule{Decay: bitsOf(4)}, 0, great, 0, 0, 0, 0, 0, api.ErrNaN},
		{"v' and w", api.Rule{Kind: api.RuleMomentum, Momentum: half}, one, 0, great, great, 0, 0, 0, api.ErrInf},
		{"v' infinite, w no number", api.Rule{Kind: api.RuleMomentum, Momentum: half}, 0, 0, great, great, 0, 0, 0, api.ErrInf},
		{"w alone", api.Rule{Kind: api.RuleMomentum, Momentum: half}, one, -great, great, 0, 0, 0, 0, api.ErrInf},
		{"v' and w", api.Rule{Kind: api.RuleNesterov, Momentum: half}, one, 0, -great, -great, 0, 0, 0, api.ErrInf},
		{"v' infinite, w no number", api.Rule{Kind: api.RuleNesterov, Momentum: half}, minus, 0, -great, -great, 0, 0, 0, api.ErrInf},
		{"w alone, by the sum with v'", api.Rule{Kind: api.RuleNesterov, Momentum: half}, one, 0, great, 0, 0, 0, 0, api.ErrInf},
		{"w no number, by that sum without a rate", api.Rule{Kind: api.RuleNesterov, Momentum: half}, 0, 0, great, 0, 0, 0, 0, api.ErrNaN},
		{"v' alone", api.Rule{Kind: api.RuleAdagrad, Eps: one}, one, 1, great, 1, 0, 0, 0, api.ErrInf},
		{"v' infinite, w no number", api.Rule{Kind: api.RuleAdagrad, Eps: one, Decay: bitsOf(4)}, one, great, 1, 1, 0, 0, 0, api.ErrInf},
		{"v' below 0, w no number", api.Rule{Kind: api.RuleAdagrad, Eps: one}, one, 1, 1, -2, 0, 0, 0, api.ErrNaN},
		{"w alone", api.Rule{Kind: api.RuleAdagrad, Eps: bitsOf(1e-30)}, bitsOf(great / 4), 1, -3, -9, 0, 0, 0, api.ErrInf},
		{"v' alone", api.Rule{Kind: api.RuleRms, Beta: half, Eps: one}, one, 1, great, 1, 0, 0, 0, api.ErrInf},
		{"v' below 0, w no number", api.Rule{Kind: api.RuleRms, Beta: half, Eps: one}, one, 1, 1, -2, 0, 0, 0, api.ErrNaN},
		{"v' infinite, w no number", api.Rule{Kind: api.RuleRms, Beta: half, Eps: one, Decay: bitsOf(4)}, one, -great, 1, 1, 0, 0, 0, api.ErrInf},
		{"s' alone", api.Rule{Kind: api.RuleAdam, Beta: half, Eps: one}, one, 1, great, 1, 1, 0.5, 0.5, api.ErrInf},
		{"s' alone, v' far", api.Rule{Kind: api.RuleAdam, Momentum: half, Beta: half, Eps: one}, one, 1, great / 2, 1, -1, 0.5, 0.5, api.ErrInf},
		{"v', s' and w", api.Rule{Kind: api.RuleAdam, Eps: one, Decay: bitsOf(4)}, one, great, 1, 1, 1, 0.5, 0.5, api.ErrInf},
		{"w no number: s' below 0", api.Rule{Kind: api.RuleAdam, Beta: half, Eps: one}, one, 1, 1, 1, -2, 0.5, 0.5, api.ErrNaN},
		{"w no number: q' above 1", api.Rule{Kind: api.RuleAdam, Beta: half, Eps: one}, one, 1, 1, 1, 2, 0.5, 4, api.ErrNaN},
		{"w no number: 0 by 0", api.Rule{Kind: api.RuleAdam, Momentum: half, Eps: one}, one, 1, 0, 0, 0, 2, 0.5, api.ErrNaN},
		{"w: a quotient by 0", api.Rule{Kind: api.RuleAdam, Momentum: half, Eps: one}, one, 1, 1, 0, 0, 2, 0.5, api.ErrInf},
		{"w no number: that without a rate", api.Rule{Kind: api.RuleAdam, Momentum: half, Eps: one}, 0, 1, 1, 0, 0, 2, 0.5, api.ErrNaN},
		{"w no number: 0 by 0 in the root", api.Rule{Kind: api.RuleAdam, Beta: half, Eps: one}, one, 1, 0, 0, 0, 0.5, 2, api.ErrNaN},
		{"w: both infinite", api.Rule{Kind: api.RuleAdam, Momentum: half, Beta: half, Eps: one}, one, 1, 1, 0, 0, 2, 2, api.ErrNaN},
		{"w clipped", api.Rule{Clip: clipped}, one, great, -great, 0, 0, 0, 0, api.OK},
		{"s' by 0 is infinite, w stays", api.Rule{Kind: api.RuleAdam, Beta: half, Eps: one}, one, 1, 1, 0, 0, 0.5, 2, api.OK},
		{"v' by the clip", api.Rule{Kind: api.RuleMomentum, Momentum: half, Clip: clipped, Decay: bitsOf(4)}, one, great, great, great, 0, 0, 0, api.OK},
	}
}

// greatest tells a width's greatest float.
func greatest(width int) float64 {
	if width == 32 {
		return math.MaxFloat32
	}
	return math.MaxFloat64
}

// among lays elements among others that come to nothing: their gradients and slots are noughts.
func among(x spot, width, count int, at ...int) asked {
	a := asked{r: x.r, rate: x.rate, w: filled(1, count, width, pattern(1, width)), g: filled(1, count, width, 0)}
	a.r.Eps = one
	if x.r.Eps != 0 {
		a.r.Eps = x.r.Eps
	}
	a.slots = cloned(beginning(x.r.Kind, a.w))
	for _, i := range at {
		a.lay(x, i)
	}
	if x.r.Kind == api.RuleAdam {
		a.slots[2] = vals(width, x.p, x.q)
	}
	return a
}

// lay lays an element into a step.
func (a asked) lay(x spot, at int) {
	width := a.w.Width
	a.w.Bits[at], a.g.Bits[at] = pattern(x.w, width), pattern(x.g, width)
	for k, f := range []float64{x.v, x.s}[:min(2, len(a.slots))] {
		a.slots[k].Bits[at] = pattern(f, width)
	}
}

// TestP1704Spots: an element that is not finite, alone.
func TestP1704Spots(t *testing.T) {
	seen := map[api.Errno]int{}
	for _, width := range widths {
		for _, x := range spots(greatest(width)) {
			a := among(x, width, 1, 0)
			got := a.step()
			if got.e != x.e || got.at != 0 || x.e != api.OK && !got.same(answer{e: x.e}) {
				t.Errorf("width %d, kind %d, %s: %x, want %v", width, x.r.Kind, x.name, got, x.e)
			}
			held(t, a, alone)
			seen[got.e]++
		}
	}
	if min(seen[api.OK], seen[api.ErrInf], seen[api.ErrNaN]) < 4 {
		t.Error(seen)
	}
}

// quiet tells whether the elements that come to nothing do so beside this one too: RuleAdam's powers are all elements' own.
func quiet(x spot, width int) bool { return among(x, width, 3).step().e == api.OK }

// TestP1704Places: the first element that is not finite is told, with its place, at all places and beside others.
func TestP1704Places(t *testing.T) {
	const count = 7
	told := 0
	for _, width := range widths {
		l := spots(greatest(width))
		for i, x := range l {
			if among(x, width, 1, 0).step().e != x.e || x.e == api.OK || !quiet(x, width) {
				continue
			}
			told++
			for at := range count {
				for _, a := range []asked{among(x, width, count, at), among(x, width, count, at, count-1), among(x, width, count, at, min(at+1, count-1), min(at+3, count-1))} {
					if got := a.step(); !got.same(answer{at: at, e: x.e}) {
						t.Errorf("width %d, kind %d, %s at %d: %x", width, x.r.Kind, x.name, at, got)
					}
				}
				// Another one behind it, which has another error.
				for _, y := range l[:i] {
					if y.r == x.r && y.rate == x.rate && y.p == x.p && y.q == x.q && at+1 < count {
						a := among(x, width, count, at)
						a.lay(y, at+1)
						if got := a.step(); !got.same(answer{at: at, e: x.e}) {
							t.Errorf("width %d, kind %d, %s at %d, then %s: %x", width, x.r.Kind, x.name, at, y.name, got)
						}
						a = among(y, width, count, at)
						a.lay(x, at+1)
						if got := a.step(); !got.same(answer{at: at, e: y.e}) {
							t.Errorf("width %d, kind %d, %s at %d, then %s: %x", width, x.r.Kind, y.name, at, x.name, got)
						}
					}
				}
			}
			// In rows and columns the place is that in Bits.
			a := among(x, width, 6, 4)
			for _, m := range []*api.Matrix{&a.w, &a.g} {
				m.Rows, m.Cols = 3, 2
			}
			for k := range min(2, len(a.slots)) {
				a.slots[k].Rows, a.slots[k].Cols = 3, 2
			}
			if got := a.step(); !got.same(answer{at: 4, e: x.e}) {
				t.Errorf("width %d, kind %d, %s in 3 rows: %x", width, x.r.Kind, x.name, got)
			}
		}
	}
	if told < 30 {
		t.Errorf("%d elements are laid among others", told)
	}
}

// TestP1704Mixed: both errors among the elements of one step: the first element's is told.
func TestP1704Mixed(t *testing.T) {
	inf := spot{r: api.Rule{Kind: api.RuleAdagrad, Eps: one}, rate: one, w: 1, g: math.MaxFloat64, e: api.ErrInf}
	none := spot{r: inf.r, rate: one, w: 1, g: 1, v: -2, e: api.ErrNaN}
	for at := range 5 {
		for other := range 5 {
			if at == other {
				continue
			}
			a := among(inf, 64, 5, at)
			a.lay(none, other)
			want := answer{at: at, e: api.ErrInf}
			if other < at {
				want = answer{at: other, e: api.ErrNaN}
			}
			if got := a.step(); !got.same(want) {
				t.Errorf("infinite at %d, no number at %d: %x", at, other, got)
			}
		}
	}
}
