package optim_test

import (
	"math"
	"math/big"
	"math/rand"
	"testing"

	"pupil/api"
	"pupil/optim"
)

// TestP1705Exact: without decay and clip RulePlain tells just w - r g, wherever the width has both numbers.
func TestP1705Exact(t *testing.T) {
	for _, width := range widths {
		r, exact := rand.New(rand.NewSource(int64(width))), 0
		for range 30000 {
			limit := 1 << 11
			if width == 64 {
				limit = 1 << 25
			}
			w, g, k := r.Intn(2*limit)-limit, r.Intn(2*limit)-limit, r.Intn(12)
			rate := math.Ldexp(float64(1+r.Intn(5)), -k)
			want := new(big.Float).SetPrec(500).Mul(large(rate), large(float64(g)))
			product := nearest(want, width)
			want.Sub(large(float64(w)), want)
			to := nearest(want, width)
			if large(value(product, width)).Cmp(large(0).Mul(large(rate), large(float64(g)))) != 0 || large(value(to, width)).Cmp(want) != 0 {
				continue
			}
			exact++
			m, _, _, e := optim.Step(api.Rule{}, bitsOf(rate), vals(width, float64(w)), vals(width, float64(g)), nil)
			if e != api.OK || large(value(m.Bits[0], width)).Cmp(want) != 0 {
				t.Errorf("width %d: %d less %v times %d: %x, %v", width, w, rate, g, m, e)
			}
		}
		if exact < 20000 {
			t.Errorf("width %d: %d are exact", width, exact)
		}
	}
}

// TestP1705Whole: whole numbers, with a rate that is a power of two, go on as whole numbers do, step by step.
func TestP1705Whole(t *testing.T) {
	for _, width := range widths {
		r := rand.New(rand.NewSource(9))
		for _, k := range []int{0, 1, 3, 5} {
			parts := []int{3 << 10, -7 << 10, 0, 1 << 10} // each is a number times 2^10
			w := vals(width, 3, -7, 0, 1)
			for range 50 {
				g := []int{r.Intn(41) - 20, r.Intn(41) - 20, r.Intn(3) - 1, 0}
				made, slots, at, e := optim.Step(api.Rule{}, bitsOf(math.Ldexp(1, -k)), w, vals(width, float64(g[0]), float64(g[1]), float64(g[2]), float64(g[3])), nil)
				if e != api.OK || at != 0 || len(slots) != 0 {
					t.Fatalf("%v, %d, %v", e, at, slots)
				}
				for i := range parts {
					parts[i] -= g[i] << 10 >> k
					if value(made.Bits[i], width) != math.Ldexp(float64(parts[i]), -10) {
						t.Errorf("width %d, rate 2^-%d: %x, want %v", width, k, made, parts)
					}
				}
				w = made
			}
		}
	}
}

// TestP1705Noughts: a gradient of noughts, without decay, leaves the value by RulePlain, at any rate and clip.
func TestP1705Noughts(t *testing.T) {
	for _, width := range widths {
		neg := pattern(math.Copysign(0, -1), width)
		r := rand.New(rand.NewSource(5))
		l := edges(width)
		for range 200 {
			l = append(l, anyFinite(r, width))
		}
		for _, rate := range rates {
			if width == 32 && rate >= toInf && rate != minus {
				continue
			}
			for _, clip := range []int{0, 1, bitsOf(1)} {
				for _, zero := range []int{0, neg} {
					w := mat(1, len(l), width, l...)
					got, _, _, e := optim.Step(api.Rule{Clip: clip}, rate, w, filled(1, len(l), width, zero), nil)
					if e != api.OK {
						t.Fatal(e)
					}
					for i, b := range got.Bits {
						if value(b, width) != value(l[i], width) {
							t.Errorf("width %d, rate %x: %x becomes %x", width, rate, l[i], b)
						}
					}
				}
			}
		}
	}
}

// TestP1706Narrowed: each rule of width 32 makes its operations as width 64 does, narrowed.
func TestP1706Narrowed(t *testing.T) {
	for _, kind := range kinds {
		r, seen := rand.New(rand.NewSource(int64(kind))), map[api.Errno]int{}
		for i := range 9000 {
			element := []func(r *rand.Rand, width int) int{edge, anyFinite, common}[i%3]
			seen[held(t, anyStep(r, kind, 1, 1, 32, element), narrowed)]++
		}
		for range 100 {
			seen[held(t, likely(r, anyStep(r, kind, 4, 8, 32, common)), narrowed)]++
		}
		if seen[api.OK] < 1500 {
			t.Errorf("kind %d: %v", kind, seen)
		}
	}
}

// TestP1706Widened: where all numbers are whole and small, both widths tell the same values.
func TestP1706Widened(t *testing.T) {
	r := rand.New(rand.NewSource(8))
	whole := func(r *rand.Rand, width int) int { return pattern(float64(r.Intn(65)-32), width) }
	for _, kind := range []int{api.RulePlain, api.RuleMomentum, api.RuleNesterov} {
		for range 300 {
			a := asked{r: api.Rule{Kind: kind, Momentum: bitsOf(0.5), Decay: bitsOf(0.25), Clip: bitsOf(16)}, rate: bitsOf(0.125), w: random(r, 2, 2, 32, whole), g: random(r, 2, 2, 32, whole)}
			for range beginning(kind, a.w) {
				a.slots = append(a.slots, random(r, 2, 2, 32, whole))
			}
			b := asked{r: a.r, rate: a.rate, w: widened(a.w), g: widened(a.g)}
			for _, m := range a.slots {
				b.slots = append(b.slots, widened(m))
			}
			narrow, wide := a.step(), b.step()
			narrow.w = widened(narrow.w)
			for i, m := range narrow.slots {
				narrow.slots[i] = widened(m)
			}
			if narrow.e != api.OK || !narrow.same(wide) {
				t.Errorf("%+v: %x, wide %x", a, narrow, wide)
			}
		}
	}
}

// widened tells a matrix of width 32 in width 64.
func widened(m api.Matrix) api.Matrix {
	w := filled(m.Rows, m.Cols, 64, 0)
	for i, b := range m.Bits {
		w.Bits[i] = bitsOf(value(b, 32))
	}
	return w
}
