package optim_test

import (
	"math"
	"math/rand"
	"testing"

	"pupil/api"
	"pupil/optim"
)

// shares, factors and rates are numbers that a rule, or a step, may be asked with in width 64; some are none in width 32.
var (
	shares  = []int{0, minus, 1, toZero, bitsOf(1e-300), bitsOf(0x1p-30), bitsOf(0.1), bitsOf(0.5), bitsOf(0.9), bitsOf(0.999), toOne - 1, one - 1}
	factors = []int{0, 0, minus, 1, toZero, toZero + 1, bitsOf(1e-30), bitsOf(1e-8), bitsOf(0.01), bitsOf(1. / 3), one, bitsOf(3), bitsOf(1e10), toInf - 1, most}
	rates   = []int{0, minus, 1, toZero, toZero + 1, bitsOf(1e-30), bitsOf(1e-3), bitsOf(0.1), bitsOf(0.5), one, bitsOf(7), bitsOf(1e20), toInf - 1, most}
)

func pick(r *rand.Rand, l []int) int { return l[r.Intn(len(l))] }

// anyRule tells a rule of a kind that is right in a width.
func anyRule(r *rand.Rand, kind, width int) api.Rule {
	for {
		x := api.Rule{Kind: kind, Momentum: pick(r, shares), Beta: pick(r, shares), Eps: pick(r, factors), Decay: pick(r, factors), Clip: pick(r, factors), Norm: pick(r, factors)}
		if isRule(x, width) == api.OK {
			return x
		}
	}
}

// anyRate tells a rate that is right in a width.
func anyRate(r *rand.Rand, width int) int {
	for {
		if b := pick(r, rates); width == 64 || b < toInf || b == minus {
			return b
		}
	}
}

// anyStep tells a step with elements that something tells.
func anyStep(r *rand.Rand, kind, rows, cols, width int, one func(r *rand.Rand, width int) int) asked {
	a := asked{r: anyRule(r, kind, width), rate: anyRate(r, width), w: random(r, rows, cols, width, one), g: random(r, rows, cols, width, one)}
	for _, m := range beginning(kind, a.w) {
		a.slots = append(a.slots, random(r, m.Rows, m.Cols, width, one))
	}
	return a
}

// likely makes a step such as trainings make: squares are not below 0, powers from 0 to 1, rates and numbers are common ones.
func likely(r *rand.Rand, a asked) asked {
	width := a.w.Width
	a.rate, a.r.Momentum, a.r.Beta, a.r.Eps = bitsOf(math.Exp(2*r.NormFloat64()-4)), bitsOf(r.Float64()*0.99), bitsOf(r.Float64()*0.99), bitsOf(1e-6+r.Float64())
	a.r.Decay, a.r.Clip = bitsOf(float64(r.Intn(2))*r.Float64()), bitsOf(float64(r.Intn(2))*(1+r.Float64()))
	for k := range a.slots {
		for i, b := range a.slots[k].Bits {
			if k == 2 {
				b = pattern(math.Pow(0.9, 1+100*r.Float64()), width)
			}
			if a.r.Kind == api.RuleAdagrad || a.r.Kind == api.RuleRms || k > 0 {
				b = pattern(math.Abs(value(b, width)), width)
			}
			a.slots[k].Bits[i] = b
		}
	}
	return a
}

func edge(r *rand.Rand, width int) int { return pick(r, edges(width)) }

// TestP1704Single: steps of one element, of all sizes, are the rule's row of operations.
func TestP1704Single(t *testing.T) {
	for _, width := range widths {
		for _, kind := range kinds {
			r, seen := rand.New(rand.NewSource(int64(10*width+kind))), map[api.Errno]int{}
			for i := range 6000 {
				element := []func(r *rand.Rand, width int) int{edge, anyFinite, common}[i%3]
				seen[held(t, anyStep(r, kind, 1, 1, width, element), alone)]++
			}
			if seen[api.OK] < 1000 || seen[api.ErrInf] < 100 || seen[api.ErrNaN] == 0 && kind != api.RuleMomentum && kind != api.RuleNesterov {
				t.Errorf("width %d, kind %d: %v", width, kind, seen)
			}
		}
	}
}

// TestP1704Common: steps such as trainings make, of many elements.
func TestP1704Common(t *testing.T) {
	for _, width := range widths {
		for _, kind := range kinds {
			r := rand.New(rand.NewSource(int64(100*width + kind)))
			for _, s := range [][2]int{{1, 1}, {1, 7}, {5, 1}, {3, 4}, {8, 16}} {
				for range 30 {
					a := likely(r, anyStep(r, kind, s[0], s[1], width, common))
					if held(t, a, alone) != api.OK || held(t, a, chapter1) != api.OK {
						t.Errorf("%+v is refused", a)
					}
				}
			}
			if held(t, likely(r, anyStep(r, kind, 64, 64, width, common)), chapter1) != api.OK {
				t.Error("a full one is refused")
			}
		}
	}
}

// want1 wants a step of one element to tell a new one and new slots.
func want1(t *testing.T, width int, r api.Rule, rate, w, g int, slots []int, to int, kept ...int) {
	t.Helper()
	a := asked{r: r, rate: rate, w: mat(1, 1, width, w), g: mat(1, 1, width, g)}
	want := answer{w: mat(1, 1, width, to)}
	for i, b := range slots {
		a.slots, want.slots = append(a.slots, mat(1, 1, width, b)), append(want.slots, mat(1, 1, width, kept[i]))
	}
	if r.Kind == api.RuleAdam {
		a.slots[2], want.slots[2] = mat(1, 2, width, slots[2], slots[3]), mat(1, 2, width, kept[2], kept[3])
		a.slots, want.slots = a.slots[:3], want.slots[:3]
	}
	if got := a.step(); !got.same(want) {
		t.Errorf("%+v: %x, want %x", a, got, want)
	}
}

// TestP1704Clip: what is above c becomes c, what is below -c becomes that; what is just at it stays; a clip of 0 is none.
func TestP1704Clip(t *testing.T) {
	for _, width := range widths {
		sign := minus
		if width == 32 {
			sign = minus32
		}
		for _, c := range []float64{1, 0.375, 0x1p-100, 0x1p100} {
			at, inf := pattern(c, width), told(math.Inf(1), width)
			for _, x := range [][2]int{{at, at}, {at + 1, at}, {at - 1, at - 1}, {inf - 1, at}, {1, 1}, {0, 0}, {at + 99999, at}, {at - 99999, at - 99999}} {
				r := api.Rule{Kind: api.RuleMomentum, Clip: bitsOf(c)}
				// Without momentum the slot is the gradient, as it is clipped.
				want1(t, width, r, 0, 0, x[0], []int{0}, 0, x[1])
				// A nought's sign is lost in the sum with 0.
				low := x[1] | sign
				if x[1] == 0 {
					low = 0
				}
				want1(t, width, r, 0, 0, x[0]|sign, []int{0}, 0, low)
				for _, none := range []int{0, minus} {
					r.Clip = none
					want1(t, width, r, 0, 0, x[0], []int{0}, 0, x[0])
				}
			}
		}
	}
	// A clip that width 32 rounds to 0 is none there; in width 64 all that is beyond it is cut off.
	want1(t, 32, api.Rule{Clip: toZero}, one, 0, one32, nil, one32|minus32)
	want1(t, 64, api.Rule{Clip: toZero}, one, 0, one, nil, toZero|minus)
	want1(t, 32, api.Rule{Clip: toZero + 1}, one, 0, one32, nil, 1|minus32)
}

// TestP1704Decay: what decays comes to the gradient ahead of the clip.
func TestP1704Decay(t *testing.T) {
	for _, width := range widths {
		p := func(f float64) int { return pattern(f, width) }
		r := api.Rule{Decay: bitsOf(0.5)}
		want1(t, width, r, one, p(4), p(1), nil, p(1))
		want1(t, width, r, one, p(-4), p(1), nil, p(-3))
		want1(t, width, r, one, p(4), 0, nil, p(2))
		r.Clip = bitsOf(2)
		want1(t, width, r, one, p(4), p(1), nil, p(2))
		want1(t, width, r, one, p(-4), p(-1), nil, p(-2))
		want1(t, width, r, one, p(4), p(-100), nil, p(6))
		want1(t, width, r, one, p(4), p(-1), nil, p(3))
		// The one that decays is the old w, in all rules alike.
		k := api.Rule{Kind: api.RuleMomentum, Decay: one, Momentum: bitsOf(0.5)}
		want1(t, width, k, one, p(4), p(1), []int{p(2)}, p(-2), p(6))
		k.Kind = api.RuleNesterov
		want1(t, width, k, one, p(4), p(1), []int{p(2)}, p(4-(5+3)), p(6))
		k.Kind, k.Eps = api.RuleAdagrad, one
		want1(t, width, k, one, p(2), p(1), []int{0}, p(2-3./4), p(9))
		k.Kind, k.Beta = api.RuleRms, bitsOf(0.75)
		want1(t, width, k, one, p(3), p(1), []int{0}, p(3-4./3), p(4))
		k.Kind, k.Beta = api.RuleAdam, bitsOf(0.5)
		want1(t, width, k, one, p(1), p(1), []int{0, 0, p(1), p(1)}, single('-', p(1), single('/', p(2), p(3), width), width), p(1), p(2), p(0.5), p(0.5))
	}
	// A sum that overflows is clipped all the same.
	want1(t, 64, api.Rule{Decay: bitsOf(3), Clip: one}, one, bitsOf(1e308), bitsOf(1), nil, bitsOf(1e308))
	want1(t, 64, api.Rule{Kind: api.RuleMomentum, Decay: bitsOf(3), Clip: one}, one, bitsOf(-1e308), bitsOf(1), []int{0}, bitsOf(-1e308), bitsOf(-1))
	// Decays that are none: -0, and what width 32 rounds to 0. A gradient of -0 shows that no 0 came to it.
	for _, d := range []int{0, minus, 1, toZero} {
		want1(t, 32, api.Rule{Decay: d}, one, minus32, minus32, nil, 0)
		want1(t, 32, api.Rule{Kind: api.RuleAdam, Eps: one, Decay: d}, one, most32, minus32, []int{0, 0, one32, one32}, most32, 0, 0, 0, 0)
	}
	want1(t, 64, api.Rule{Decay: minus}, one, bitsOf(-1), minus, nil, bitsOf(-1))
	want1(t, 64, api.Rule{Decay: minus}, one, minus, minus, nil, 0)
	want1(t, 64, api.Rule{Decay: 1}, one, one, minus, nil, one)
}

// TestP1704Noughts: rates and numbers of -0 are taken as 0; what comes out keeps the sign that single operations tell.
func TestP1704Noughts(t *testing.T) {
	for _, width := range widths {
		p := func(f float64) int { return pattern(f, width) }
		neg := p(math.Copysign(0, -1))
		for _, zero := range []int{0, minus} {
			// -0 less 0 is -0; less -0 it would be 0.
			want1(t, width, api.Rule{}, zero, neg, p(1), nil, neg)
			want1(t, width, api.Rule{}, zero, neg, p(-1), nil, 0)
			// 0 times 1 and -0 are 0; -0 times 1 and -0 would be -0.
			want1(t, width, api.Rule{Kind: api.RuleMomentum, Momentum: zero}, one, p(3), neg, []int{p(1)}, p(3), 0)
			want1(t, width, api.Rule{Kind: api.RuleNesterov, Momentum: zero}, one, p(3), neg, []int{p(1)}, p(3), 0)
			want1(t, width, api.Rule{Kind: api.RuleRms, Beta: zero, Eps: one}, one, p(3), p(1), []int{p(-5)}, p(2.5), p(1))
			want1(t, width, api.Rule{Kind: api.RuleAdam, Momentum: zero, Beta: zero, Eps: one}, one, p(3), neg, []int{p(1), p(1), p(1), p(1)}, p(3), 0, 0, 0, 0)
		}
		// The sign of a slot that is a nought shows through.
		want1(t, width, api.Rule{Kind: api.RuleMomentum}, one, p(3), neg, []int{neg}, p(3), neg)
		want1(t, width, api.Rule{Kind: api.RuleAdagrad, Eps: one}, one, p(3), 0, []int{neg}, p(3), 0)
		want1(t, width, api.Rule{}, one, neg, neg, nil, 0)
		want1(t, width, api.Rule{}, one, neg, 0, nil, neg)
		want1(t, width, api.Rule{}, one, 0, 0, nil, 0)
	}
}

// TestP1704Rate: a rate is a float of the parameter's width.
func TestP1704Rate(t *testing.T) {
	for _, c := range []struct{ rate, narrow int }{{toZero, 0}, {toZero - 1, 0}, {1, 0}, {toZero + 1, 1}, {bitsOf(0.1), 0x3DCCCCCD}, {one - 1, one32}, {toOne - 1, one32 - 1}, {toInf - 1, most32}} {
		want1(t, 64, api.Rule{}, c.rate, 0, one, nil, c.rate|minus)
		want := c.narrow | minus32
		if c.narrow == 0 {
			want = 0
		}
		want1(t, 32, api.Rule{}, c.rate, 0, one32, nil, want)
	}
	for _, rate := range []int{toInf, toInf + 1, bitsOf(1e300), most} {
		_, _, _, e := optim.Step(api.Rule{}, rate, mat(1, 1, 32, 1), mat(1, 1, 32, 1), nil)
		_, _, _, f := optim.Step(api.Rule{}, rate, mat(1, 1, 64, 1), mat(1, 1, 64, 1), nil)
		if e != api.ErrArg || f != api.OK {
			t.Errorf("the rate %x: %v, %v", rate, e, f)
		}
	}
}

// TestP1704Numbers: a rule's numbers are floats of the parameter's width.
func TestP1704Numbers(t *testing.T) {
	tenth := 0x3DCCCCCD
	want1(t, 32, api.Rule{Kind: api.RuleMomentum, Momentum: bitsOf(0.1)}, 0, 0, 0, []int{one32}, 0, tenth)
	want1(t, 32, api.Rule{Decay: bitsOf(0.1)}, one, one32, 0, nil, single('-', one32, tenth, 32))
	want1(t, 32, api.Rule{Clip: bitsOf(0.1)}, one, 0, one32, nil, tenth|minus32)
	want1(t, 32, api.Rule{Kind: api.RuleRms, Beta: bitsOf(0.1), Eps: one}, 0, 0, 0, []int{one32}, 0, tenth)
	want1(t, 32, api.Rule{Kind: api.RuleAdagrad, Eps: bitsOf(0.1)}, one, 0, one32, []int{0}, single('-', 0, single('/', one32, single('+', one32, tenth, 32), 32), 32), one32)
	want1(t, 32, api.Rule{Kind: api.RuleAdam, Momentum: bitsOf(0.1), Beta: bitsOf(0.2), Eps: one}, 0, one32, 0, []int{0, 0, one32, one32}, one32, 0, 0, tenth, 0x3E4CCCCD)
	// Numbers that a rule does not use turn nothing, while they are such as it can have.
	for _, width := range widths {
		for _, kind := range kinds {
			r := rand.New(rand.NewSource(int64(kind)))
			a := likely(r, anyStep(r, kind, 2, 2, width, common))
			want := a.step()
			unused := map[int][]int{api.RulePlain: {0, 1, 2}, api.RuleMomentum: {1, 2}, api.RuleNesterov: {1, 2}, api.RuleAdagrad: {0, 1}, api.RuleRms: {0}}[kind]
			for _, i := range append(unused, 5) {
				fields[i].set(&a.r, bitsOf(0.7))
				if got := a.step(); got.e != api.OK || !got.same(want) {
					t.Errorf("kind %d: %s turns it", kind, fields[i].name)
				}
			}
		}
	}
}

// TestP1704Steps: many steps, one behind the other, from Fresh on.
func TestP1704Steps(t *testing.T) {
	for _, width := range widths {
		for _, kind := range kinds {
			r := rand.New(rand.NewSource(int64(1000*width + kind)))
			rule := api.Rule{Kind: kind, Momentum: bitsOf(0.9), Beta: bitsOf(0.99), Eps: bitsOf(1e-8), Decay: bitsOf(1e-3), Clip: bitsOf(1.5)}
			w := random(r, 3, 2, width, common)
			slots, e := optim.Fresh(rule, w)
			if e != api.OK {
				t.Fatal(e)
			}
			p, q := pattern(1, width), pattern(1, width)
			for i := range 200 {
				a := asked{r: rule, rate: bitsOf(0.1 / float64(i+1)), w: w, g: random(r, 3, 2, width, common), slots: slots}
				if held(t, a, alone) != api.OK {
					t.Fatalf("step %d is refused", i)
				}
				made := a.step()
				w, slots = made.w, made.slots
				p, q = single('*', p, number(rule.Momentum, width), width), single('*', q, number(rule.Beta, width), width)
				if kind == api.RuleAdam && !same(slots[2], mat(1, 2, width, p, q)) {
					t.Errorf("step %d: the third slot is %x, want %x, %x", i, slots[2], p, q)
				}
			}
		}
	}
}

// TestP1704Elements: an element becomes what it becomes alone; the third slot of RuleAdam goes on once, not with each.
func TestP1704Elements(t *testing.T) {
	for _, width := range widths {
		for _, kind := range kinds {
			r := rand.New(rand.NewSource(int64(77*width + kind)))
			a := likely(r, anyStep(r, kind, 3, 5, width, common))
			all := a.step()
			if all.e != api.OK || !same(mat(3, 5, width, all.w.Bits...), all.w) {
				t.Fatalf("%+v: %+v", a, all)
			}
			for i := range a.w.Bits {
				b := asked{r: a.r, rate: a.rate, w: mat(1, 1, width, a.w.Bits[i]), g: mat(1, 1, width, a.g.Bits[i]), slots: cloned(a.slots)}
				for k := range min(2, len(b.slots)) {
					b.slots[k] = mat(1, 1, width, a.slots[k].Bits[i])
				}
				one := b.step()
				if one.w.Bits[0] != all.w.Bits[i] {
					t.Errorf("kind %d, element %d: %x, alone %x", kind, i, all.w, one.w)
				}
				for k := range one.slots {
					if k < 2 && one.slots[k].Bits[0] != all.slots[k].Bits[i] || k == 2 && !same(one.slots[2], all.slots[2]) {
						t.Errorf("kind %d, element %d, slot %d: %x, alone %x", kind, i, k, all.slots, one.slots)
					}
				}
			}
		}
	}
}
