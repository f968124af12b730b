package bound_test

import (
	"math"
	"testing"

	"pupil/api"
)

// wantTold holds Tell against four answers by their values.
func wantTold(t *testing.T, what string, x told, forward, reverse float64, ahead, back []float64) {
	t.Helper()
	w := x.seed.Width
	want := api.Told{
		Forward: mat(1, 1, w, forward).Bits[0], Reverse: mat(1, 1, w, reverse).Bits[0],
		ForwardSpan: spansOf(w, ahead...)[0], ReverseSpan: spansOf(w, back...)[0],
	}
	if got, f := x.tell(); f != (api.Fault{}) || got != want {
		t.Errorf("%s: %x %v, want %x", what, got, f, want)
	}
}

// TestP1303Sums: each answer is rounded once, from all products together.
func TestP1303Sums(t *testing.T) {
	for _, w := range widths {
		u, e, g := ulp[w], tiny[w], great[w]
		made := tapeOf(input(0, 1, 2, w), param(0, 1, 1, w), takes(api.OpGlueCols, 0, 1))
		values := valuesOf(t, made, list(mat(1, 2, w, 1, 2)), list(mat(1, 1, w, 3)))
		for _, c := range []struct {
			moving, seed []float64
			want         float64
			around       []float64
		}{
			{row(1, 2, 3), row(4, 5, 6), 32, row(32, 32)},
			{row(g, 1, -g), row(g, 1, g), 1, row(1, 1)},
			{row(1, u/2, 0), row(1, 1, 1), 1, row(1, 1+u)},
			{row(1+u, u/2, 0), row(1, 1, 1), 1 + 2*u, row(1+u, 1+2*u)},
			{row(-1, e, 0), row(1, -e, 1), -1, row(-1-u, -1)},
			{row(e, 0, 0), row(0.25, 1, 1), 0, row(0, e)},
			{row(e, 0, 0), row(-0.25, 1, 1), 0, row(-e, 0)}, // not -0
			{row(0, neg0, 0), row(1, -1, neg0), 0, row(0, 0)},
			{row(1, 1, -2), row(1, 1, 1), 0, row(0, 0)},
			{row(g, g, 0), row(1, 1, 1), inf, row(g, inf)},
			{row(g, 0, -g), row(-1, 1, 1), -inf, row(-inf, -g)},
			{row(g, u, 0), row(1, 1, 1), g, row(g, inf)},
			{row(0, 0, 0), row(g, g, g), 0, row(0, 0)},
		} {
			x := told{made, values, list(mat(1, 2, w, c.moving[:2]...)), list(mat(1, 1, w, c.moving[2])), 2, mat(1, 3, w, c.seed...)}
			wantTold(t, "a glue", x, c.want, c.want, c.around, c.around)
		}
	}
}

// TestP1303Widths: whatever the widths of inputs and parameters, all four are told in the node's.
func TestP1303Widths(t *testing.T) {
	up := 0x1p-23
	made := tapeOf(input(0, 1, 1, 64), param(0, 1, 1, 32), takes(api.OpNarrow, 0), takes(api.OpAdd, 2, 1), takes(api.OpWide, 1), takes(api.OpAdd, 0, 4))
	values := valuesOf(t, made, list(mat(1, 1, 64, 1)), list(mat(1, 1, 32, 2)))
	x := told{made, values, list(mat(1, 1, 64, 1+0x1p-40)), list(mat(1, 1, 32, 0)), 3, mat(1, 1, 32, 1)}
	wantTold(t, "narrow", x, 1, 1, row(1, 1+up), row(1, 1+up))
	x.params = list(mat(1, 1, 32, up/2)) // Forward rounds to 1 first, and then half way to the even one; Reverse rounds once, above half way.
	wantTold(t, "narrow and half", x, 1, 1+up, row(1, 1+2*up), row(1, 1+up))
	x.seed = mat(1, 1, 32, -1)
	wantTold(t, "turned", x, -1, -1-up, row(-1-2*up, -1), row(-1-up, -1))
	x.node, x.seed = 5, mat(1, 1, 64, 1)
	wantTold(t, "wide", x, 1+0x1p-40+up/2, 1+0x1p-40+up/2, row(1+0x1p-40+up/2, 1+0x1p-40+up/2), row(1+0x1p-40+up/2, 1+0x1p-40+up/2))
	x.seed = mat(1, 1, 64, 1+0x1p-52) // The adjoint of the parameter is of width 32.
	sum := 1 + 0x1p-52 + 0x1p-40 + up/2
	wantTold(t, "wide, with all bits", x, sum, sum, row(sum, sum+0x1p-52), row(sum, 1+0x1p-52+0x1p-40+up/2*(1+up)+0x1p-52))
	x.inputs, x.node, x.seed = list(mat(1, 1, 64, math.MaxFloat32)), 3, mat(1, 1, 32, 2)
	x.params = list(mat(1, 1, 32, -1))
	wantTold(t, "beyond the width", x, inf, inf, row(math.MaxFloat32, inf), row(math.MaxFloat32, inf))
}

// TestP1303Leaves: the node may be a leaf, or hang on none that moves.
func TestP1303Leaves(t *testing.T) {
	for _, w := range widths {
		made := tapeOf(input(0, 1, 2, w), param(0, 1, 2, w), constant(mat(1, 1, w, 3)), takes(api.OpNeg, 2), input(1, 1, 1, w))
		values := valuesOf(t, made, list(mat(1, 2, w, 1, 2), mat(1, 1, w, 9)), list(mat(1, 2, w, 3, 4)))
		x := told{made, values, list(mat(1, 2, w, 5, 6), mat(1, 1, w, 7)), list(mat(1, 2, w, 8, 9)), 0, mat(1, 2, w, 10, 100)}
		wantTold(t, "an input", x, 650, 650, row(650, 650), row(650, 650))
		x.node = 1
		wantTold(t, "a parameter", x, 980, 980, row(980, 980), row(980, 980))
		x.node, x.seed = 4, mat(1, 1, w, -2)
		wantTold(t, "another input", x, -14, -14, row(-14, -14), row(-14, -14))
		for _, node := range []int{2, 3} {
			x.node = node
			wantTold(t, "a constant", x, 0, 0, row(0, 0), row(0, 0))
		}
	}
}
