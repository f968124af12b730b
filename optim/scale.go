package optim

import (
	"slices"

	"pupil/acc"
	"pupil/api"
	"pupil/bits"
	"pupil/exact"
	"pupil/sure"
	"pupil/tensor"
)

// Scale brings gradients that are too great, all together, to a size.
func Scale(norm int, gs []api.Matrix) ([]api.Matrix, api.Errno) {
	limit, ok := size(norm, wide)
	if !ok {
		return nil, api.ErrRule
	}
	for _, g := range gs {
		if _, e := tensor.Finite(g); e != api.OK {
			return nil, e
		}
	}
	if limit == 0 {
		return copies(gs), api.OK
	}
	n := length(gs)
	switch {
	case bits.Class(n, wide) == api.IsInfinite:
		return nil, api.ErrInf
	case !bits.Less(limit, n, wide):
		return copies(gs), api.OK
	}
	return shrunk(gs, bits.Div(limit, n, wide)), api.OK
}

// length tells the float nearest to the root of the sum of all squares: the sum is exact.
func length(gs []api.Matrix) int {
	var sum api.Acc
	for _, g := range gs {
		squares, _ := acc.Products(g.Bits, g.Bits, g.Width)
		sum, _ = acc.Merge(sum, squares)
	}
	n, _, _ := exact.Root(sum.Sum, wide, exact.Near)
	return n
}

// copies makes the same matrices.
func copies(gs []api.Matrix) []api.Matrix {
	return each(gs, func(g api.Matrix) []int { return slices.Clone(g.Bits) })
}

// shrunk makes matrices whose elements are multiplied with a binary64. A single operation would tell -0 of what is below 0, and has no factor of another width.
func shrunk(gs []api.Matrix, factor int) []api.Matrix {
	f := sure.Of(factor, wide)
	return each(gs, func(g api.Matrix) []int {
		list := make([]int, len(g.Bits))
		for i := range len(list) {
			list[i] = sure.Round(sure.Mul(sure.Of(g.Bits[i], g.Width), f), g.Width)
		}
		return list
	})
}

// each makes matrices like others, with lists that are made of theirs.
func each(gs []api.Matrix, list func(g api.Matrix) []int) []api.Matrix {
	made := make([]api.Matrix, len(gs))
	for i := range len(gs) {
		made[i] = gs[i]
		made[i].Bits = list(gs[i])
	}
	return made
}
