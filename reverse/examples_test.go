package reverse_test

import (
	"testing"

	"pupil/api"
)

// TestP1201Examples: the chapter's examples.
func TestP1201Examples(t *testing.T) {
	x, w, nought, seed := mat(1, 2, 64, 1, 2), mat(2, 1, 64, 0.5, -0.25), mat(1, 1, 64, 0), mat(1, 1, 64, 1)
	values := list(x, w, nought, nought)
	wantRun(t, "the net", net(), values, 3, seed, list(mat(1, 2, 64, 0.5, -0.25), mat(2, 1, 64, 1, 2), seed, seed), api.Fault{})
	wantRun(t, "its product", net(), values, 2, seed, list(mat(1, 2, 64, 0.5, -0.25), mat(2, 1, 64, 1, 2), seed, nought), api.Fault{})
	one := input(0, 1, 1, 64)
	wantRun(t, "a square", tapeOf(one, takes(api.OpMul, 0, 0)), list(mat(1, 1, 64, 3), mat(1, 1, 64, 9)), 1, seed, list(mat(1, 1, 64, 6), seed), api.Fault{})
	wantRun(t, "a mean", tapeOf(input(0, 1, 2, 64), takes(api.OpMean, 0)), list(mat(1, 2, 64, 1, 3), mat(1, 1, 64, 2)), 1, seed, list(mat(1, 2, 64, 0.5, 0.5), seed), api.Fault{})
	deep := tapeOf(one, takes(api.OpExp, 0), takes(api.OpSub, 1, 0), takes(api.OpMul, 2, 2))
	two := mat(1, 1, 64, 2)
	wantRun(t, "a power", deep, list(nought, seed, seed, seed), 3, seed, list(nought, two, two, seed), api.Fault{})
}
