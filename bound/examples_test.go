package bound_test

import (
	"testing"

	"pupil/api"
)

// TestP1301Examples: the chapter's examples.
func TestP1301Examples(t *testing.T) {
	nought, seed := mat(1, 1, 64, 0), mat(1, 1, 64, 1)
	values := list(mat(1, 2, 64, 1, 2), mat(2, 1, 64, 0.5, -0.25), nought, nought)
	x := told{net(), values, list(mat(1, 2, 64, 1, 1)), list(mat(2, 1, 64, 0, 0)), 3, seed}
	quarter := pointsOf(64, 0.25)
	spans, f := x.forward()
	if want := [][]api.Span{pointsOf(64, 1, 1), pointsOf(64, 0, 0), quarter, quarter}; f != (api.Fault{}) || !sameSpans(spans, want) {
		t.Errorf("Forward of the net: %x %v", spans, f)
	}
	spans, f = x.reverse()
	if want := [][]api.Span{pointsOf(64, 0.5, -0.25), pointsOf(64, 1, 2), pointsOf(64, 1), pointsOf(64, 1)}; f != (api.Fault{}) || !sameSpans(spans, want) {
		t.Errorf("Reverse of the net: %x %v", spans, f)
	}
	q := quarter[0].Lo
	if got, f := x.tell(); f != (api.Fault{}) || got != (api.Told{Forward: q, Reverse: q, ForwardSpan: quarter[0], ReverseSpan: quarter[0]}) {
		t.Errorf("Tell of the net: %x %v", got, f)
	}
	third := told{
		tape:   tapeOf(input(0, 1, 1, 64), constant(mat(1, 1, 64, 3)), takes(api.OpDiv, 0, 1)),
		values: list(seed, mat(1, 1, 64, 3), mat(1, 1, 64, 1.0/3)), inputs: list(seed), node: 2, seed: seed,
	}
	around := api.Span{Lo: 0x3FD5555555555555, Hi: 0x3FD5555555555556}
	spans, f = third.forward()
	if want := [][]api.Span{pointsOf(64, 1), pointsOf(64, 0), {around}}; f != (api.Fault{}) || !sameSpans(spans, want) {
		t.Errorf("Forward of a third: %x %v", spans, f)
	}
	if got, f := third.tell(); f != (api.Fault{}) || got != (api.Told{Forward: around.Lo, Reverse: around.Lo, ForwardSpan: around, ReverseSpan: around}) {
		t.Errorf("Tell of a third: %x %v", got, f)
	}
}
