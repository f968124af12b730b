package optim_test

import (
	"math"
	"testing"

	"pupil/api"
)

// right tells a step that is made, of 2 by 3.
func right(kind, width int) asked {
	a := asked{r: plainRule(kind), rate: one, w: filled(2, 3, width, pattern(1, width)), g: filled(2, 3, width, pattern(2, width))}
	a.slots = beginning(kind, a.w)
	return a
}

// fault is one thing that is wrong with a step.
type fault struct {
	rank int // its place in the chapter's row
	e    api.Errno
	make func(a *asked)
}

func otherWidth(width int) int { return 96 - width }

// faults are all of them, for steps of a width.
func faults(width int) []fault {
	var l []fault
	for _, x := range wrongMatrices(width) {
		l = append(l, fault{1, x.e, func(a *asked) { a.w = x.m }}, fault{4, x.e, func(a *asked) { a.g = x.m }})
	}
	for _, f := range fields {
		for _, b := range []int{api.NaN, api.Inf, bitsOf(-1)} {
			l = append(l, fault{2, api.ErrRule, func(a *asked) { f.set(&a.r, b) }})
		}
	}
	for _, kind := range noKinds {
		l = append(l, fault{2, api.ErrRule, func(a *asked) { a.r.Kind = kind }})
	}
	for _, rate := range []int{api.NaN, api.NaN | minus, -1, math.MaxInt, api.Inf, api.Inf | minus, bitsOf(-1), 1 | minus, most | minus} {
		l = append(l, fault{3, api.ErrArg, func(a *asked) { a.rate = rate }})
	}
	other := otherWidth(width)
	inf, none := told(math.Inf(1), other), told(math.NaN(), width)
	return append(l,
		fault{4, api.ErrInf, func(a *asked) { a.g = mat(2, 3, other, 0, 0, 0, inf, 0, 0) }},
		fault{4, api.ErrNaN, func(a *asked) { a.g = mat(2, 3, width, 0, 0, 0, 0, 0, none) }},
		fault{1, api.ErrNaN, func(a *asked) { a.w = mat(2, 3, width, 0, 0, 0, 0, 0, none) }},
		fault{4, api.ErrNaN, func(a *asked) { a.g = mat(3, 2, width, 0, 0, none, 0, 0, 0) }},
		fault{4, api.ErrShape, func(a *asked) { a.g = mat(2, 3, other) }},
		fault{5, api.ErrWidth, func(a *asked) { a.g = filled(2, 3, other, 0) }},
		fault{5, api.ErrWidth, func(a *asked) { a.g = filled(1, 1, other, 0) }},
		fault{5, api.ErrWidth, func(a *asked) { a.g = filled(3, 2, other, 0) }},
		fault{6, api.ErrShape, func(a *asked) { a.g = filled(3, 2, width, 0) }},
		fault{6, api.ErrShape, func(a *asked) { a.g = filled(1, 6, width, 0) }},
		fault{6, api.ErrShape, func(a *asked) { a.g = filled(2, 2, width, 0) }},
		fault{6, api.ErrShape, func(a *asked) { a.g = filled(1, 3, width, 0) }},
		fault{6, api.ErrShape, func(a *asked) { a.g = filled(2, 4, width, 0) }},
		fault{7, api.ErrState, func(a *asked) { a.slots = append(cloned(a.slots), filled(2, 3, width, 0)) }},
		fault{7, api.ErrState, func(a *asked) { a.slots = append([]api.Matrix{filled(2, 3, width, 0)}, a.slots...) }},
		fault{7, api.ErrState, func(a *asked) { a.slots = append(cloned(a.slots), api.Matrix{}) }},
		fault{7, api.ErrState, func(a *asked) { a.slots = make([]api.Matrix, 1000) }},
	)
}

// wantError wants a step to tell an error alone, as the reference does.
func wantError(t *testing.T, a asked, e api.Errno) {
	t.Helper()
	if got := a.step(); !got.same(answer{e: e}) || a.refusal() != e {
		t.Errorf("%+v: %x, want %v (the reference: %v)", a, got, e, a.refusal())
	}
}

// TestP1704Errors: each thing that is wrong is told; of two the one that the chapter names first.
func TestP1704Errors(t *testing.T) {
	for _, width := range widths {
		for _, kind := range kinds {
			if a := right(kind, width); a.step().e != api.OK {
				t.Fatalf("%+v is refused", a)
			}
			for _, f := range faults(width) {
				a := right(kind, width)
				f.make(&a)
				wantError(t, a, f.e)
				for _, g := range faults(width) {
					if g.rank <= f.rank {
						continue
					}
					// Both g's are one matrix: those that have two faults stand in the list by themselves.
					if f.rank >= 4 && g.rank <= 6 {
						continue
					}
					b := a
					g.make(&b)
					wantError(t, b, f.e)
				}
			}
		}
	}
}

// TestP1704Neighbours: of each two neighbours in the chapter's row one step that has both.
func TestP1704Neighbours(t *testing.T) {
	good, bad := mat(1, 1, 64, one), mat(1, 1, 64, api.NaN)
	rule := api.Rule{Momentum: one}
	for i, c := range []struct {
		a asked
		e api.Errno
	}{
		{asked{r: rule, w: bad, g: good}, api.ErrNaN},
		{asked{r: rule, w: mat(1, 1, 16, 0), g: good}, api.ErrWidth},
		{asked{r: rule, rate: api.NaN, w: good, g: good}, api.ErrRule},
		{asked{rate: api.NaN, w: good, g: bad}, api.ErrArg},
		{asked{rate: toInf, w: mat(1, 1, 32, 0), g: mat(1, 1, 32, -1)}, api.ErrArg},
		{asked{w: good, g: mat(1, 1, 32, api.Inf32)}, api.ErrInf},
		{asked{w: good, g: mat(1, 1, 32, -1)}, api.ErrBits},
		{asked{w: good, g: mat(1, 2, 32, 0, 0)}, api.ErrWidth},
		{asked{w: good, g: mat(1, 2, 64, 0, 0), slots: list(good)}, api.ErrShape},
		{asked{w: good, g: good, slots: list(good)}, api.ErrState},
		{asked{w: good, g: good, slots: list(bad)}, api.ErrState},
		// What the step would make is looked at last.
		{asked{r: api.Rule{Kind: api.RuleMomentum}, rate: one, w: mat(1, 1, 64, most), g: mat(1, 1, 64, most|minus)}, api.ErrState},
		// What is wrong with the parameter has no place: that is of what is made.
		{asked{w: mat(1, 3, 64, 0, 0, api.Inf), g: good}, api.ErrInf},
		{asked{w: mat(1, 3, 64, 0, 0, 0), g: mat(1, 3, 64, 0, api.NaN, 0)}, api.ErrNaN},
	} {
		if got := c.a.step(); !got.same(answer{e: c.e}) {
			t.Errorf("%d: %x, want %v", i, got, c.e)
		}
	}
}

// unfit are ints that no finite element of a width is.
func unfit(width int) []int {
	l := []int{told(math.Inf(1), width), told(math.Inf(-1), width), told(math.NaN(), width), told(math.Inf(1), width) + 1}
	if width == 32 {
		l = append(l, -1, 1<<32, math.MaxInt, math.MinInt)
	}
	return l
}

// TestP1704Slots: slots that are not such as Fresh makes.
func TestP1704Slots(t *testing.T) {
	for _, width := range widths {
		other := otherWidth(width)
		var unlike []api.Matrix
		for _, x := range wrongMatrices(width) {
			unlike = append(unlike, x.m)
		}
		for _, s := range [][2]int{{3, 2}, {1, 3}, {2, 1}, {1, 1}, {1, 6}, {6, 1}, {2, 4}, {3, 3}, {1, 2}} {
			unlike = append(unlike, filled(s[0], s[1], width, 0))
		}
		unlike = append(unlike, filled(2, 3, other, 0), filled(1, 2, other, 0), filled(1, 2, other, pattern(1, other)))
		for _, kind := range kinds {
			a := right(kind, width)
			full := a.slots
			for n := range len(full) {
				a.slots = full[:n]
				wantError(t, a, api.ErrState)
				a.slots = full[n+1:]
				wantError(t, a, api.ErrState)
			}
			for n := range len(full) {
				for _, m := range unlike {
					if n == 2 && same(m, filled(1, 2, width, 0)) {
						continue
					}
					a.slots = cloned(full)
					a.slots[n] = m
					wantError(t, a, api.ErrState)
				}
				a.slots = append(cloned(full), full[n])
				wantError(t, a, api.ErrState)
				// Of the right shape, but not in form, or not finite at one place.
				for at := range full[n].Bits {
					for _, b := range unfit(width) {
						a.slots = cloned(full)
						a.slots[n].Bits[at] = b
						wantError(t, a, api.ErrState)
					}
				}
				for _, l := range [][]int{nil, full[n].Bits[1:], append([]int{0}, full[n].Bits...)} {
					a.slots = cloned(full)
					a.slots[n].Bits = l
					wantError(t, a, api.ErrState)
				}
			}
		}
		// RuleAdam's third slot is 1 by 2, whatever the parameter is, and never the first or second one.
		a := right(api.RuleAdam, width)
		third := a.slots[2]
		for _, l := range [][]api.Matrix{{third, third, third}, {a.slots[0], third, a.slots[0]}, {third, a.slots[0], a.slots[0]}, {a.slots[0], a.slots[0], a.slots[0]}, {a.slots[0], a.slots[0], filled(2, 1, width, pattern(1, width))}, {a.slots[0], a.slots[0], filled(1, 3, width, 0)}, {a.slots[0], a.slots[0], filled(1, 1, width, 0)}} {
			a.slots = l
			wantError(t, a, api.ErrState)
		}
	}
}

// TestP1704Wide: what is a rule, or a rate, of width 64 alone is refused in width 32.
func TestP1704Wide(t *testing.T) {
	for _, r := range []api.Rule{{Beta: toOne}, {Momentum: toOne}, {Eps: toInf}, {Decay: toInf}, {Clip: toInf}, {Kind: api.RuleAdagrad, Eps: toZero}, {Kind: api.RuleRms, Eps: toZero}, {Kind: api.RuleAdam, Eps: 1}} {
		for _, width := range widths {
			a := right(r.Kind, width)
			a.r = r
			if width == 32 {
				wantError(t, a, api.ErrRule)
			} else if held(t, a, alone) == api.ErrRule {
				t.Errorf("%+v is refused", a)
			}
		}
	}
}
