package optim_test

import (
	"math"
	"testing"

	"pupil/api"
	"pupil/optim"
)

var noKinds = []int{-1, 6, 7, -6, 42, math.MaxInt, math.MinInt, 1 << 32, 1<<32 + 1}

var noWidths = []int{0, 1, 16, 31, 33, 63, 65, -32, -64, 1<<32 + 32, 1<<32 + 64, math.MaxInt, math.MinInt}

// fields are the six numbers of a rule.
var fields = []struct {
	name string
	set  func(r *api.Rule, b int)
}{
	{"Momentum", func(r *api.Rule, b int) { r.Momentum = b }},
	{"Beta", func(r *api.Rule, b int) { r.Beta = b }},
	{"Eps", func(r *api.Rule, b int) { r.Eps = b }},
	{"Decay", func(r *api.Rule, b int) { r.Decay = b }},
	{"Clip", func(r *api.Rule, b int) { r.Clip = b }},
	{"Norm", func(r *api.Rule, b int) { r.Norm = b }},
}

// plainRule tells a rule of a kind that is right in both widths.
func plainRule(kind int) api.Rule { return api.Rule{Kind: kind, Eps: bitsOf(1)} }

// wantCheck wants Check to tell an error.
func wantCheck(t *testing.T, r api.Rule, width int, want api.Errno) {
	t.Helper()
	if e := optim.Check(r, width); e != want {
		t.Errorf("Check(%x, %d): %v, want %v", r, width, e, want)
	}
}

// TestP1701Width: a width that is none is told ahead of all that is wrong with the rule.
func TestP1701Width(t *testing.T) {
	for _, width := range noWidths {
		for _, kind := range append(noKinds, kinds...) {
			wantCheck(t, plainRule(kind), width, api.ErrWidth)
			wantCheck(t, api.Rule{Kind: kind, Momentum: api.NaN, Norm: minus | 1}, width, api.ErrWidth)
		}
	}
}

// TestP1701Kinds: each kind is a rule, and no other int is one.
func TestP1701Kinds(t *testing.T) {
	for _, width := range widths {
		for _, kind := range kinds {
			wantCheck(t, plainRule(kind), width, api.OK)
		}
		for _, kind := range noKinds {
			wantCheck(t, plainRule(kind), width, api.ErrRule)
		}
	}
}

// TestP1701Numbers: each of the six numbers at its edges, one by one, by hand.
func TestP1701Numbers(t *testing.T) {
	for _, kind := range kinds {
		for _, width := range widths {
			for _, f := range fields {
				for _, b := range []int{api.NaN, api.NaN | minus, api.Inf + 1, math.MaxInt, -1, api.Inf, api.Inf | minus, 1 | minus, bitsOf(-1e-300), bitsOf(-1), most | minus} {
					r := plainRule(kind)
					f.set(&r, b)
					wantCheck(t, r, width, api.ErrRule)
				}
				for _, b := range []int{0, minus, 1, bitsOf(0x1p-1022), bitsOf(1e-300), bitsOf(0x1p-150), toZero, toZero + 1, bitsOf(0.5), toOne - 1} {
					r, want := plainRule(kind), api.OK
					f.set(&r, b)
					if f.name == "Eps" && kind >= api.RuleAdagrad && (b&^minus == 0 || width == 32 && b <= toZero) {
						want = api.ErrRule
					}
					wantCheck(t, r, width, want)
				}
			}
		}
	}
}

// TestP1701Great: all but the first two may be as great as the width has them; the norm is of width 64 always.
func TestP1701Great(t *testing.T) {
	for _, kind := range kinds {
		for _, f := range fields {
			for _, b := range []int{bitsOf(1), bitsOf(1) + 1, bitsOf(7), toInf - 1, toInf, toInf + 1, bitsOf(1e300), most} {
				for _, width := range widths {
					r, want := plainRule(kind), api.OK
					f.set(&r, b)
					switch {
					case f.name == "Momentum" || f.name == "Beta":
						want = api.ErrRule
					case f.name != "Norm" && width == 32 && b >= toInf:
						want = api.ErrRule
					}
					wantCheck(t, r, width, want)
				}
			}
		}
	}
}

// TestP1701Shares: Momentum and Beta are below 1, as floats of the width.
func TestP1701Shares(t *testing.T) {
	for _, kind := range kinds {
		for i, f := range fields[:2] {
			for _, c := range []struct {
				b            int
				narrow, wide api.Errno
			}{
				{toOne - 1, api.OK, api.OK}, {toOne, api.ErrRule, api.OK}, {toOne + 1, api.ErrRule, api.OK}, {one - 1, api.ErrRule, api.OK}, {one, api.ErrRule, api.ErrRule}, {one + 1, api.ErrRule, api.ErrRule},
			} {
				r := plainRule(kind)
				f.set(&r, c.b)
				wantCheck(t, r, 32, c.narrow)
				wantCheck(t, r, 64, c.wide)
				fields[1-i].set(&r, bitsOf(0.9))
				wantCheck(t, r, 32, c.narrow)
				wantCheck(t, r, 64, c.wide)
			}
		}
	}
}

// TestP1701Eps: the rules that divide want an Eps that is not 0 in the width.
func TestP1701Eps(t *testing.T) {
	for _, kind := range kinds {
		for _, c := range []struct {
			b            int
			narrow, wide bool
		}{{0, false, false}, {minus, false, false}, {1, false, true}, {bitsOf(0x1p-151), false, true}, {toZero - 1, false, true}, {toZero, false, true}, {toZero + 1, true, true}, {bitsOf(0x1p-149), true, true}, {bitsOf(1e-8), true, true}} {
			wants := kind == api.RuleAdagrad || kind == api.RuleRms || kind == api.RuleAdam
			for _, width := range widths {
				want := api.OK
				if wants && (width == 32 && !c.narrow || width == 64 && !c.wide) {
					want = api.ErrRule
				}
				wantCheck(t, api.Rule{Kind: kind, Eps: c.b}, width, want)
			}
		}
	}
}

// special are bits that a rule's number may be asked with.
var special = []int{0, minus, 1, 1 | minus, toZero, toZero + 1, toOne, toOne - 1, one - 1, one, one + 1, one | minus, toInf, toInf - 1, most, most | minus, api.Inf, api.Inf | minus, api.NaN, -1, math.MaxInt, api.NaN32, bitsOf(0.9)}

// TestP1701All: all pairs of numbers, held against the chapter's words.
func TestP1701All(t *testing.T) {
	seen := map[api.Errno]int{}
	for _, kind := range append([]int{-1, 6}, kinds...) {
		for _, width := range []int{32, 64, 16} {
			for i, f := range fields {
				for _, g := range fields[:i+1] {
					for _, a := range special {
						for _, b := range special {
							r := plainRule(kind)
							f.set(&r, a)
							g.set(&r, b)
							want := isRule(r, width)
							wantCheck(t, r, width, want)
							seen[want]++
						}
					}
				}
			}
		}
	}
	for _, e := range []api.Errno{api.OK, api.ErrWidth, api.ErrRule} {
		if seen[e] < 1000 {
			t.Errorf("%v comes %d times", e, seen[e])
		}
	}
}
