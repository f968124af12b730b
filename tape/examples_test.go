package tape_test

import (
	"slices"
	"testing"

	"pupil/api"
	"pupil/tape"
)

// TestExamples: the chapter's table, line by line.
func TestExamples(t *testing.T) {
	number, square := api.Shape{Rows: 1, Cols: 1, Width: 64}, api.Shape{Rows: 2, Cols: 2, Width: 64}
	flat, high := api.Shape{Rows: 1, Cols: 2, Width: 64}, api.Shape{Rows: 2, Cols: 1, Width: 64}
	with := func(in ...int) api.Tape {
		changed := net()
		changed.Nodes[2].In = in
		return changed
	}
	for _, x := range []struct {
		tape api.Tape
		want []api.Shape
		f    api.Fault
	}{
		{net(), []api.Shape{flat, high, number, number}, api.Fault{}},
		{with(1, 0), []api.Shape{flat, high, square, square}, api.Fault{}},
		{with(0, 2), nil, api.Fault{Err: api.ErrNode, Node: 2, At: 1}},
		{with(0), nil, api.Fault{Err: api.ErrArg, Node: 2}},
		{tapeOf(input(1, 1, 1, 64)), nil, api.Fault{Err: api.ErrInput, Node: 1}},
		{tapeOf(input(0, 1, 1, 64), input(0, 1, 1, 64)), nil, api.Fault{Err: api.ErrInput, Node: 1}},
		{tapeOf(constant(1, 2, 64, 0x3FF0000000000000, api.Inf)), nil, api.Fault{Err: api.ErrInf, At: 1}},
	} {
		if s, f := tape.Check(x.tape); f != x.f || !slices.Equal(s, x.want) {
			t.Errorf("Check(%v): %v, %v; want %v, %v", x.tape, s, f, x.want, x.f)
		}
	}
	if l, e := tape.Needed(net(), 2); e != api.OK || !slices.Equal(l, []int{0, 1, 2}) {
		t.Errorf("Needed: %v, %v", l, e)
	}
	first := api.Tape{Nodes: net().Nodes[:2]}
	if p, old, e := tape.Prune(net(), 0); e != api.OK || !sameTape(p, first) || !slices.Equal(old, []int{0, 1}) {
		t.Errorf("Prune: %v, %v, %v", p, old, e)
	}
}
