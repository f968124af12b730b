package train_test

import (
	"math/rand"
	"testing"

	"pupil/api"
	"pupil/train"
)

func wantSum(t *testing.T, what string, x api.State) int {
	t.Helper()
	h := train.Sum(x)
	if want := sumOf(x); h != want {
		t.Errorf("%s: %x, want %x", what, h, want)
	}
	return h
}

// TestP2109Hand: the empty state, by the sentence itself: seven ints, all 0.
func TestP2109Hand(t *testing.T) {
	h := uint64(14695981039346656037)
	for range 7 {
		h *= 1099511628211
	}
	if got := train.Sum(api.State{}); got != int(h) {
		t.Errorf("%x, want %x", got, h)
	}
	h = 14695981039346656037
	for _, v := range []int{1, 2, 3, 4, 5, 1, 1, 2, 64, 6, -7, 1, 1, 1, 1, 32, 8} {
		h = (h ^ uint64(v)) * 1099511628211
	}
	x := api.State{Step: 1, Epoch: 2, Batch: 3, Loss: 4, Rate: 5, Params: []api.Matrix{matrix(1, 2, 64, 6, -7)}, Slots: [][]api.Matrix{{matrix(1, 1, 32, 8)}}}
	if got := train.Sum(x); got != int(h) {
		t.Errorf("%x, want %x", got, h)
	}
}

// TestP2109Trained: states that trainings come to, of all rules.
func TestP2109Trained(t *testing.T) {
	for _, w := range widths {
		for _, kind := range kinds {
			p, s := subject(w)
			p.Rule = ruleOf(kind)
			x := begun(t, p, s)
			for range 5 {
				wantSum(t, "a state", x)
				y, trace, _, _ := train.Step(p, s, x)
				if trace.Sum != wantSum(t, "the next one", y) {
					t.Errorf("%v", trace)
				}
				x = y
			}
		}
	}
}

// TestP2109Any: states of any form, with ints of all sizes; none is refused.
func TestP2109Any(t *testing.T) {
	r := rand.New(rand.NewSource(2109))
	number := func() int {
		if r.Intn(4) == 0 {
			return ends[r.Intn(len(ends))]
		}
		return int(r.Uint64()) >> r.Intn(64)
	}
	list := func() []api.Matrix {
		var l []api.Matrix
		for range r.Intn(4) {
			m := matrix(number(), number(), number())
			for range r.Intn(5) {
				m.Bits = append(m.Bits, number())
			}
			l = append(l, m)
		}
		return l
	}
	below := 0
	for range 500 {
		x := api.State{Step: number(), Epoch: number(), Batch: number(), Loss: number(), Rate: number(), Params: list()}
		for range r.Intn(4) {
			x.Slots = append(x.Slots, list())
		}
		if wantSum(t, "any state", x) < 0 {
			below++
		}
	}
	if below < 100 || below > 400 {
		t.Errorf("%d of 500 are below 0", below)
	}
	for _, n := range ends {
		wantSum(t, "an end", api.State{Step: n, Epoch: n, Batch: n, Loss: n, Rate: n, Params: []api.Matrix{matrix(n, n, n, n)}, Slots: [][]api.Matrix{{matrix(n, n, n, n, n)}}})
	}
}

// TestP2109Apart: each part of a state turns its sum; where a list ends does too; nil and empty lists are one.
func TestP2109Apart(t *testing.T) {
	m, n := matrix(1, 2, 64, 3, 4), matrix(1, 1, 64, 5)
	l := []api.State{
		{}, {Step: 1}, {Epoch: 1}, {Batch: 1}, {Loss: 1}, {Rate: 1}, {Step: -1}, {Params: []api.Matrix{m}}, {Params: []api.Matrix{n}}, {Params: []api.Matrix{m, n}}, {Params: []api.Matrix{n, m}},
		{Params: []api.Matrix{{}}}, {Params: []api.Matrix{{Rows: 1}}}, {Params: []api.Matrix{{Cols: 1}}}, {Params: []api.Matrix{{Width: 1}}}, {Params: []api.Matrix{{Bits: []int{1}}}},
		{Slots: [][]api.Matrix{nil}}, {Slots: [][]api.Matrix{nil, nil}}, {Slots: [][]api.Matrix{{m}}}, {Slots: [][]api.Matrix{{m}, nil}}, {Slots: [][]api.Matrix{nil, {m}}}, {Slots: [][]api.Matrix{{m, n}}}, {Slots: [][]api.Matrix{{m}, {n}}},
		{Params: []api.Matrix{m}, Slots: [][]api.Matrix{nil}}, {Params: []api.Matrix{m}, Slots: [][]api.Matrix{{n}}},
	}
	sums := map[int]int{}
	for i, x := range l {
		h := wantSum(t, "a state", x)
		if k, ok := sums[h]; ok {
			t.Errorf("states %d and %d have one sum", i, k)
		}
		sums[h] = i
	}
	empty := api.State{Params: []api.Matrix{{Bits: []int{}}}, Slots: [][]api.Matrix{{}}}
	bare := api.State{Params: []api.Matrix{{}}, Slots: [][]api.Matrix{nil}}
	if train.Sum(empty) != train.Sum(bare) || train.Sum(api.State{Params: []api.Matrix{}, Slots: [][]api.Matrix{}}) != train.Sum(api.State{}) {
		t.Error("empty lists turn a sum")
	}
}
