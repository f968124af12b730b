package forward_test

import (
	"testing"

	"pupil/api"
)

// TestP1101Examples: the chapter's examples.
func TestP1101Examples(t *testing.T) {
	x, w := mat(1, 2, 64, 1, 2), mat(2, 1, 64, 0.5, -0.25)
	values := list(x, w, mat(1, 1, 64, 0), mat(1, 1, 64, 0))
	for _, c := range []struct {
		x, w api.Matrix
		want float64
	}{
		{mat(1, 2, 64, 0, 0), mat(2, 1, 64, 1, 0), 1},
		{mat(1, 2, 64, 1, 1), mat(2, 1, 64, 0, 0), 0.25},
		{x, w, 0},
	} {
		want := mat(1, 1, 64, c.want)
		wantRun(t, "the net", net(), values, list(c.x), list(c.w), list(c.x, c.w, want, want), api.Fault{})
	}
	one := input(0, 1, 1, 64)
	wantRun(t, "a square", tapeOf(one, takes(api.OpMul, 0, 0)), list(mat(1, 1, 64, 3), mat(1, 1, 64, 9)), list(mat(1, 1, 64, 1)), nil, list(mat(1, 1, 64, 1), mat(1, 1, 64, 6)), api.Fault{})
	root, noughts := tapeOf(one, takes(api.OpSqrt, 0)), list(mat(1, 1, 64, 0), mat(1, 1, 64, 0))
	wantRun(t, "a root along 1", root, noughts, list(mat(1, 1, 64, 1)), nil, nil, api.Fault{Err: api.ErrInf, Node: 1})
	wantRun(t, "a root along 0", root, noughts, list(mat(1, 1, 64, 0)), nil, nil, api.Fault{Err: api.ErrNaN, Node: 1})
}
