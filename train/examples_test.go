package train_test

import (
	"slices"
	"testing"

	"pupil/api"
	"pupil/part"
	"pupil/train"
)

// TestExamples: the chapter's table, line by line.
func TestExamples(t *testing.T) {
	p, s := example()
	x, e := train.New(p, s)
	if begin := (api.State{Params: []api.Matrix{vals(1, 1, 64, 0)}, Slots: [][]api.Matrix{nil}}); !sameState(x, begin) || e != api.OK {
		t.Errorf("New: %v, %v", x, e)
	}
	rows, e := train.Rows(p, s, x)
	if !slices.Equal(rows, []int{0, 1, 2}) || e != api.OK {
		t.Errorf("Rows: %v, %v", rows, e)
	}
	const loss, seventh = 0x4032AAAAAAAAAAAB, 0x3FF2AAAAAAAAAAAB
	next := api.State{Step: 1, Epoch: 1, Loss: loss, Rate: bitsOf(0.0625), Params: []api.Matrix{matrix(1, 1, 64, seventh)}, Slots: [][]api.Matrix{nil}}
	trace := api.Trace{Loss: loss, Rate: bitsOf(0.0625), Sum: sumOf(next)}
	want(t, "Step", made(train.Step(p, s, x)), told{state: next, traces: []api.Trace{trace}})
	all, _, _ := part.Of(p, x.Params, s, rows)
	if _, grads, _, _ := part.Close(p, all); !sameAll(grads, []api.Matrix{matrix(1, 1, 64, loss-1<<63)}) {
		t.Errorf("the gradient: %x", grads)
	}
	want(t, "Apply", made(train.Apply(p, s, x, all)), told{state: next, traces: []api.Trace{trace}})
	want(t, "Run of 0 steps", ran(train.Run(p, s, x, 0)), told{state: x})
	y := cloned(x)
	y.Epoch = 1
	if e := train.Is(p, s, y); e != api.ErrState {
		t.Errorf("Is with Epoch 1: %v", e)
	}
	p.Schedule.Base = bitsOf(1e308)
	s.Y = vals(3, 1, 64, 1e300, 1e300, 1e300)
	wantRefused(t, "beyond", made(train.Step(p, s, x)), api.Where{Kind: api.InValue, Node: 5}, api.ErrInf)
}

// TestHand: two steps by hand, of whole numbers, with momentum: loss (x w - y)^2, one row a batch.
func TestHand(t *testing.T) {
	for _, w := range widths {
		p := planOf(3, 5, input(0, 1, 1, w), input(1, 1, 1, w), param(0, 1, 1, w), takes(api.OpMul, 0, 2), takes(api.OpSub, 3, 1), takes(api.OpMul, 4, 4))
		p.Rule, p.Batch = api.Rule{Kind: api.RuleMomentum, Momentum: bitsOf(0.5)}, 1
		p.Schedule = api.Schedule{Base: bitsOf(0.5), Warm: 2}
		s := api.Set{X: vals(1, 1, w, 2), Y: vals(1, 1, w, 4)}
		x := begun(t, p, s)
		if first := (api.State{Params: []api.Matrix{vals(1, 1, w, 0)}, Slots: [][]api.Matrix{{vals(1, 1, w, 0)}}}); !sameState(x, first) {
			t.Errorf("New: %v", x)
		}
		// At 0: the loss is 16, the gradient 2 (0 - 4) 2 = -16; v -16, the rate 1/4: w is 4.
		one := api.State{Step: 1, Epoch: 1, Loss: pattern(16, w), Rate: bitsOf(0.25), Params: []api.Matrix{vals(1, 1, w, 4)}, Slots: [][]api.Matrix{{vals(1, 1, w, -16)}}}
		first := api.Trace{Step: 0, Loss: pattern(16, w), Rate: bitsOf(0.25), Sum: sumOf(one)}
		want(t, "the first step", made(train.Step(p, s, x)), told{state: one, traces: []api.Trace{first}})
		// At 4: the loss is 16, the gradient 16; v -8 + 16 = 8, the rate 1/2: w is 0.
		two := api.State{Step: 2, Epoch: 2, Loss: pattern(16, w), Rate: bitsOf(0.5), Params: []api.Matrix{vals(1, 1, w, 0)}, Slots: [][]api.Matrix{{vals(1, 1, w, 8)}}}
		second := api.Trace{Step: 1, Loss: pattern(16, w), Rate: bitsOf(0.5), Sum: sumOf(two)}
		want(t, "both steps", ran(train.Run(p, s, x, 2)), told{state: two, traces: []api.Trace{first, second}})
		loss, outs, where, e := train.Eval(p, one.Params, s, []int{0})
		if loss != pattern(16, w) || !sameAll(outs, []api.Matrix{vals(1, 1, w, 8)}) || where != (api.Where{}) || e != api.OK {
			t.Errorf("Eval: %x, %x, %v, %v", loss, outs, where, e)
		}
	}
}
