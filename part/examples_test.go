package part_test

import (
	"testing"

	"pupil/api"
	"pupil/part"
)

// TestExamples: the chapter's table, line by line.
func TestExamples(t *testing.T) {
	p, s := example()
	one := []api.Matrix{vals(1, 1, 64, 1)}
	x, where, e := part.Of(p, one, s, []int{0, 1})
	if want := (api.Part{Rows: []int{0, 1}, Loss: whole(5, 0).acc(), Grads: [][]api.Acc{{whole(-10, 0).acc()}}}); !samePart(x, want) || where != (api.Where{}) || e != api.OK {
		t.Errorf("rows 0 and 1: %v, %v, %v", x, where, e)
	}
	y, where, e := part.Of(p, one, s, []int{2})
	if want := (api.Part{Rows: []int{2}, Loss: whole(9, 0).acc(), Grads: [][]api.Acc{{whole(-18, 0).acc()}}}); !samePart(y, want) || where != (api.Where{}) || e != api.OK {
		t.Errorf("row 2: %v, %v, %v", y, where, e)
	}
	for _, l := range [][2]api.Part{{x, y}, {y, x}} {
		z, e := part.Join(l[0], l[1])
		if want := (api.Part{Rows: upTo(3), Loss: whole(14, 0).acc(), Grads: [][]api.Acc{{whole(-28, 0).acc()}}}); !samePart(z, want) || e != api.OK {
			t.Errorf("Join: %v, %v", z, e)
		}
		loss, grads, where, e := part.Close(p, z)
		if loss != 0x4012AAAAAAAAAAAB || !sameAll(grads, []api.Matrix{matrix(1, 1, 64, 0x4022AAAAAAAAAAAB-1<<63)}) || where != (api.Where{}) || e != api.OK {
			t.Errorf("Close: %x, %x, %v, %v", loss, grads, where, e)
		}
	}
	wantNoJoin(t, "with itself", x, x, api.ErrRow)
	wantStop(t, "1e200", p, []api.Matrix{vals(1, 1, 64, 1e200)}, s, []int{0, 1}, api.Where{Kind: api.InValue, Node: 5}, api.ErrInf)
	wantNone(t, "no rows", p, one, s, nil, api.ErrNone)
	wantNone(t, "rows 1 0", p, one, s, []int{1, 0}, api.ErrRow)
	wantNone(t, "rows 3", p, one, s, []int{3}, api.ErrRow)
	wide := planOf(0, 0, input(0, 1, 2, 64), input(1, 1, 1, 64))
	wantFits(t, "a loss of two columns", wide, api.Set{X: vals(1, 2, 64, 1, 2), Y: vals(1, 1, 64, 1)}, api.ErrShape)
	wantFits(t, "a loss of two columns, and another set", wide, s, api.ErrShape)
}

// TestHand: a batch by hand: two rows of a net of whole numbers, and their mean.
func TestHand(t *testing.T) {
	for _, w := range widths {
		// The loss is (x w + b - y)^2 of x [1 2], w [3 4], b 5, y 6: (3 + 8 + 5 - 6)^2 = 100; of x [-1 1], y 4: (-3 + 4 + 5 - 4)^2 = 4.
		p := planOf(5, 7, input(0, 1, 2, w), input(1, 1, 1, w), param(0, 2, 1, w), param(1, 1, 1, w), takes(api.OpProduct, 0, 2), takes(api.OpAdd, 4, 3), takes(api.OpSub, 5, 1), takes(api.OpMul, 6, 6))
		params := []api.Matrix{vals(2, 1, w, 3, 4), vals(1, 1, w, 5)}
		s := api.Set{X: vals(3, 2, w, 1, 2, 100, 100, -1, 1), Y: vals(3, 1, w, 6, 100, 4)}
		x, _, e := part.Of(p, params, s, []int{0, 2})
		// By w: 2 10 [1 2] + 2 2 [-1 1]; by b: 2 10 + 2 2.
		want := api.Part{Rows: []int{0, 2}, Loss: whole(104, 0).acc(), Grads: [][]api.Acc{{whole(16, 0).acc(), whole(44, 0).acc()}, {whole(24, 0).acc()}}}
		if !samePart(x, want) || e != api.OK {
			t.Errorf("%v, %v, want %v", x, e, want)
		}
		loss, grads, _, e := part.Close(p, x)
		if loss != pattern(52, w) || !sameAll(grads, []api.Matrix{vals(2, 1, w, 8, 22), vals(1, 1, w, 12)}) || e != api.OK {
			t.Errorf("%x, %x, %v", loss, grads, e)
		}
	}
}
