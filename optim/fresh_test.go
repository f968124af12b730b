package optim_test

import (
	"math"
	"math/rand"
	"testing"

	"pupil/api"
	"pupil/optim"
)

// wrongMatrices are matrices of a width that are not in form, or not finite, with their errors.
func wrongMatrices(width int) []wrong {
	inf, none := told(math.Inf(1), width), told(math.NaN(), width)
	other := told(math.Inf(-1), width)
	l := []wrong{
		{api.Matrix{}, api.ErrWidth}, {mat(1, 1, 16, 0), api.ErrWidth}, {mat(0, 0, -width), api.ErrWidth}, {mat(math.MinInt, 1, math.MaxInt), api.ErrWidth},
		{mat(0, 1, width), api.ErrShape}, {mat(1, 0, width), api.ErrShape}, {mat(-1, -1, width, 0), api.ErrShape}, {mat(math.MinInt, math.MinInt, width), api.ErrShape}, {mat(math.MaxInt, math.MinInt, width), api.ErrShape},
		{mat(1, 4097, width, 0), api.ErrLong}, {mat(math.MaxInt, math.MaxInt, width), api.ErrLong}, {mat(1<<32, 1<<32, width), api.ErrLong}, {mat(1<<62+1, 4, width, 0, 0, 0, 0), api.ErrLong},
		{mat(1, 2, width, 0), api.ErrShape}, {mat(1, 1, width, 0, 0), api.ErrShape}, {mat(2, 1, width), api.ErrShape}, {mat(1, 2, width, none), api.ErrShape},
		{mat(1, 1, width, none), api.ErrNaN}, {mat(1, 1, width, inf), api.ErrInf}, {mat(1, 1, width, other), api.ErrInf},
		{mat(1, 3, width, 0, inf, none), api.ErrInf}, {mat(1, 3, width, 0, none, inf), api.ErrNaN}, {mat(3, 1, width, 0, 0, inf+1), api.ErrNaN},
	}
	if width == 32 {
		l = append(l, wrong{mat(1, 2, 32, none, -1), api.ErrBits}, wrong{mat(1, 1, 32, 1<<32), api.ErrBits}, wrong{mat(1, 1, 32, math.MinInt), api.ErrBits}, wrong{mat(1, 2, 32, math.MaxInt, inf), api.ErrBits})
	}
	return l
}

type wrong struct {
	m api.Matrix
	e api.Errno
}

// wantFresh wants Fresh to tell slots, or an error alone.
func wantFresh(t *testing.T, r api.Rule, w api.Matrix, want []api.Matrix, e api.Errno) {
	t.Helper()
	if got, f := optim.Fresh(r, w); !allSame(got, want) || f != e {
		t.Errorf("Fresh(%x, %x): %x, %v; want %x, %v", r, w, got, f, want, e)
	}
}

// TestP1702Slots: the slots of each rule, bit by bit.
func TestP1702Slots(t *testing.T) {
	r := rand.New(rand.NewSource(2))
	for _, width := range widths {
		for _, s := range [][2]int{{1, 1}, {1, 2}, {2, 1}, {2, 3}, {5, 1}, {1, 4096}, {64, 64}} {
			w := random(r, s[0], s[1], width, anyFinite)
			zero, last := filled(s[0], s[1], width, 0), mat(1, 2, width, pattern(1, width), pattern(1, width))
			wantFresh(t, plainRule(api.RulePlain), w, nil, api.OK)
			wantFresh(t, plainRule(api.RuleMomentum), w, []api.Matrix{zero}, api.OK)
			wantFresh(t, plainRule(api.RuleNesterov), w, []api.Matrix{zero}, api.OK)
			wantFresh(t, plainRule(api.RuleAdagrad), w, []api.Matrix{zero}, api.OK)
			wantFresh(t, plainRule(api.RuleRms), w, []api.Matrix{zero}, api.OK)
			wantFresh(t, plainRule(api.RuleAdam), w, []api.Matrix{zero, zero, last}, api.OK)
		}
	}
	// The numbers of a rule turn no slot.
	full := api.Rule{Kind: api.RuleAdam, Momentum: bitsOf(0.9), Beta: bitsOf(0.99), Eps: bitsOf(1e-8), Decay: bitsOf(0.1), Clip: bitsOf(3), Norm: bitsOf(1e300)}
	w := mat(1, 1, 32, minus32)
	wantFresh(t, full, w, []api.Matrix{mat(1, 1, 32, 0), mat(1, 1, 32, 0), mat(1, 2, 32, one32, one32)}, api.OK)
}

// TestP1702Errors: the parameter's error, then the rule's.
func TestP1702Errors(t *testing.T) {
	for _, width := range widths {
		for _, kind := range append(noKinds, kinds...) {
			for _, x := range wrongMatrices(width) {
				wantFresh(t, plainRule(kind), x.m, nil, x.e)
				wantFresh(t, api.Rule{Kind: kind, Beta: api.NaN}, x.m, nil, x.e)
			}
			for _, f := range fields {
				r := plainRule(kind)
				f.set(&r, bitsOf(-1))
				wantFresh(t, r, mat(1, 1, width, 1), nil, api.ErrRule)
			}
		}
	}
	// A rule of the one width that is none of the other.
	for _, r := range []api.Rule{{Beta: toOne}, {Momentum: toOne}, {Clip: toInf}, {Decay: toInf}, {Kind: api.RuleRms, Eps: toZero}} {
		wantFresh(t, r, mat(1, 1, 32, 1), nil, api.ErrRule)
		wantFresh(t, r, mat(1, 1, 64, 1), beginning(r.Kind, mat(1, 1, 64, 0)), api.OK)
	}
}
