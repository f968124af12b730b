package eval_test

import (
	"math"
	"testing"

	"pupil/api"
)

// TestP1001Examples: the chapter's table, what Run tells.
func TestP1001Examples(t *testing.T) {
	x, w, nought := mat(1, 2, 64, 1, 2), mat(2, 1, 64, 0.5, -0.25), mat(1, 1, 64, 0)
	wantRun(t, "the net", net(), list(x), list(w), list(x, w, nought, nought), api.Fault{})
	wantRun(t, "no parameter", net(), list(x), nil, nil, api.Fault{Err: api.ErrParam, Node: 4})
	wantRun(t, "2 by 1", net(), list(mat(2, 1, 64, 1, 2)), list(w), nil, api.Fault{Err: api.ErrShape})
	wantRun(t, "infinity", net(), list(mat(1, 2, 64, math.Inf(1), 0)), list(mat(2, 1, 64, 0, 1)), nil, api.Fault{Err: api.ErrInf})
	log := tapeOf(input(0, 1, 2, 64), takes(api.OpLog, 0), takes(api.OpSum, 1))
	wantRun(t, "log 0", log, list(mat(1, 2, 64, 1, 0)), nil, nil, api.Fault{Err: api.ErrInf, Node: 1, At: 1})
	wantRun(t, "log -1", log, list(mat(1, 2, 64, 1, -1)), nil, nil, api.Fault{Err: api.ErrNaN, Node: 1, At: 1})
	wantRun(t, "no number", log, list(mat(1, 2, 64, math.NaN(), 0)), nil, nil, api.Fault{Err: api.ErrNaN})
}

// TestP1002Examples: the chapter's table, what Check tells.
func TestP1002Examples(t *testing.T) {
	x, w, nought := mat(1, 2, 64, 1, 2), mat(2, 1, 64, 0.5, -0.25), mat(1, 1, 64, 0)
	wantCheck(t, "the net", net(), list(x, w, nought, nought), api.Fault{})
	wantCheck(t, "another last one", net(), list(x, w, nought, mat(1, 1, 64, 1)), api.Fault{Err: api.ErrBits, Node: 3})
}
