package train_test

import (
	"math/rand"
	"testing"

	"pupil/api"
	"pupil/start"
	"pupil/train"
)

// TestP2102New: the state at the beginning, part by part, for each rule.
func TestP2102New(t *testing.T) {
	for _, w := range widths {
		p, s := subject(w)
		first, _, _ := start.All(p.Inits, p.Seed)
		zero := func(i int) api.Matrix {
			m := copied(first[i])
			clear(m.Bits)
			return m
		}
		ones := func(i int) api.Matrix { return vals(1, 2, first[i].Width, 1, 1) }
		for _, kind := range kinds {
			p.Rule = ruleOf(kind)
			x := begun(t, p, s)
			if x.Step != 0 || x.Epoch != 0 || x.Batch != 0 || x.Loss != 0 || x.Rate != 0 {
				t.Errorf("kind %d: %v", kind, x)
			}
			if !sameAll(x.Params, first) || len(x.Slots) != 4 {
				t.Fatalf("kind %d: %x", kind, x)
			}
			for i := range first {
				kept := []api.Matrix{zero(i)}
				switch kind {
				case api.RulePlain:
					kept = nil
				case api.RuleAdam:
					kept = []api.Matrix{zero(i), zero(i), ones(i)}
				}
				if !sameAll(x.Slots[i], kept) {
					t.Errorf("kind %d, parameter %d: %x, want %x", kind, i, x.Slots[i], kept)
				}
			}
			if e := train.Is(p, s, x); e != api.OK {
				t.Errorf("kind %d: Is: %v", kind, e)
			}
			if want, _ := newOf(p, s); !sameState(x, want) {
				t.Errorf("kind %d: %x, want %x", kind, x, want)
			}
		}
	}
}

// TestP2102Seed: what is made at the beginning hangs on the Inits and the seed, not on the set, the batches, the schedule.
func TestP2102Seed(t *testing.T) {
	r := rand.New(rand.NewSource(4))
	for _, w := range widths {
		p, s := subject(w)
		x := begun(t, p, s)
		q := p
		q.Batch, q.Schedule, q.Out = 1, api.Schedule{Kind: api.RateLinear, Total: 5}, 3
		if y := begun(t, q, mixedSet(r, 20, w)); !sameState(x, y) {
			t.Errorf("%x, then %x", x, y)
		}
		seen := map[int]bool{}
		for _, seed := range append([]int{0, 1, 42}, ends...) {
			q := p
			q.Seed = seed
			y := begun(t, q, s)
			if want, _, _ := start.All(p.Inits, seed); !sameAll(y.Params, want) {
				t.Errorf("seed %d: %x, want %x", seed, y.Params, want)
			}
			seen[train.Sum(y)] = true
		}
		if len(seen) != len(ends)+3 {
			t.Errorf("%d beginnings", len(seen))
		}
	}
}

// TestP2102Bare: a plan without a parameter has a state without any.
func TestP2102Bare(t *testing.T) {
	r := rand.New(rand.NewSource(5))
	for _, w := range widths {
		p, s := bare(w), api.Set{X: some(r, 4, 2, w), Y: some(r, 4, 2, w)}
		for _, kind := range append([]int{-1, 6, 99}, kinds...) {
			p.Rule = api.Rule{Kind: kind}
			if x := begun(t, p, s); !sameState(x, api.State{}) {
				t.Errorf("%v", x)
			}
		}
	}
}

// TestP2102Place: Step is Epoch times the batches of an epoch and Batch, at every step.
func TestP2102Place(t *testing.T) {
	r := rand.New(rand.NewSource(6))
	for _, w := range widths {
		for _, c := range [][3]int{{7, 3, 3}, {6, 3, 2}, {5, 1, 5}, {4, 4, 1}, {4, 5, 1}, {4, 256, 1}, {9, 8, 2}} {
			p, s := linear(w), api.Set{X: some(r, c[0], 1, w), Y: some(r, c[0], 1, w)}
			p.Batch = c[1]
			x := begun(t, p, s)
			epoch, batch := 0, 0
			for step := range 12 {
				if x.Step != step || x.Epoch != epoch || x.Batch != batch {
					t.Fatalf("%v, step %d: %d, %d, %d", c, step, x.Step, x.Epoch, x.Batch)
				}
				var e api.Errno
				if x, _, _, e = train.Step(p, s, x); e != api.OK {
					t.Fatal(e)
				}
				if batch++; batch == c[2] {
					epoch, batch = epoch+1, 0
				}
			}
		}
	}
}
