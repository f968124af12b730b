package start_test

import (
	"math"
	"testing"

	"pupil/api"
	"pupil/start"
)

var noKinds = []int{-1, 6, 7, 42, math.MaxInt, math.MinInt, 1 << 32, 1<<32 + 1}

var noWidths = []int{0, 1, 16, 31, 33, 63, 65, -32, -64, 1<<32 + 64, math.MaxInt, math.MinInt}

// wrongShapes are rows and columns that are none, or too many: their product goes round to 0 or to what is right.
var wrongShapes = [][2]int{{0, 1}, {1, 0}, {0, 0}, {-1, -1}, {-3, 2}, {2, -3}, {math.MinInt, math.MinInt}, {math.MaxInt, 0}, {0, math.MaxInt}, {1, 4097}, {4097, 1}, {64, 65}, {2, 2049}, {math.MaxInt, math.MaxInt}, {1 << 32, 1 << 32}, {1, math.MaxInt}, {math.MinInt, 1}, {1<<62 + 1, 4}}

// special are bits of an A or a B: right, no number of all kinds, infinite, noughts, the least and the greatest.
var special = []int{0, minus, 1, 1 | minus, 0x3FF0000000000000, 0x3FF0000000000000 | minus, api.Inf - 1, api.Inf - 1 | minus, api.Inf, api.Inf | minus, api.NaN, api.NaN | minus, api.Inf + 1, math.MaxInt, -1, api.NaN32, toInf}

// TestP1601Errors: errors are told in the chapter's order, whatever else is wrong.
func TestP1601Errors(t *testing.T) {
	seen := map[api.Errno]int{}
	shapes := append([][2]int{{1, 1}, {1, 2}, {2, 1}}, wrongShapes...)
	for _, kind := range append(noKinds, kinds...) {
		for _, width := range append(noWidths, widths...) {
			for i, s := range shapes {
				for j, a := range special {
					for k, b := range special {
						if i > 2 && (i+j+k)%5 != 0 {
							continue
						}
						x := api.Init{Kind: kind, Rows: s[0], Cols: s[1], Width: width, A: a, B: b}
						seen[held(t, x, 5, 6)]++
					}
				}
			}
		}
	}
	for _, e := range []api.Errno{api.OK, api.ErrRule, api.ErrWidth, api.ErrShape, api.ErrLong, api.ErrArg, api.ErrNaN, api.ErrInf} {
		if seen[e] < 20 {
			t.Errorf("the error %v comes %d times", e, seen[e])
		}
	}
}

// TestP1601Order: of two things that are wrong the one that the chapter names first is told.
func TestP1601Order(t *testing.T) {
	one, two := bitsOf(1), bitsOf(2)
	for i, c := range []struct {
		x    api.Init
		want api.Errno
	}{
		{api.Init{Kind: -1, Rows: 0, Cols: 1, Width: 64}, api.ErrRule},
		{api.Init{Kind: 6, Rows: 1, Cols: 1, Width: 7}, api.ErrRule},
		{api.Init{Kind: 6, Rows: 1, Cols: 1, Width: 64, A: api.NaN}, api.ErrRule},
		{api.Init{Kind: api.InitConst, Rows: 0, Cols: 9999, Width: 7, A: api.NaN}, api.ErrWidth},
		{api.Init{Kind: api.InitConst, Rows: 0, Cols: 9999, Width: 32, A: api.NaN}, api.ErrShape},
		{api.Init{Kind: api.InitConst, Rows: 1, Cols: 9999, Width: 32, A: api.NaN}, api.ErrLong},
		{api.Init{Kind: api.InitZero, Rows: 1, Cols: 4097, Width: 32, A: 1}, api.ErrLong},
		{api.Init{Kind: api.InitConst, Rows: 1, Cols: 1, Width: 32, A: api.NaN, B: 1}, api.ErrNaN},
		{api.Init{Kind: api.InitConst, Rows: 1, Cols: 1, Width: 32, A: api.Inf | minus, B: 1}, api.ErrInf},
		{api.Init{Kind: api.InitNormal, Rows: 1, Cols: 1, Width: 32, A: api.Inf, B: minus}, api.ErrInf},
		{api.Init{Kind: api.InitZero, Rows: 1, Cols: 1, Width: 32, A: api.NaN}, api.ErrArg},
		{api.Init{Kind: api.InitZero, Rows: 1, Cols: 1, Width: 32, A: minus}, api.ErrArg},
		{api.Init{Kind: api.InitGlorot, Rows: 1, Cols: 1, Width: 32, A: api.Inf}, api.ErrArg},
		{api.Init{Kind: api.InitGlorot, Rows: 1, Cols: 1, Width: 32, B: api.Inf}, api.ErrArg},
		{api.Init{Kind: api.InitHe, Rows: 1, Cols: 1, Width: 64, B: minus}, api.ErrArg},
		{api.Init{Kind: api.InitHe, Rows: 1, Cols: 1, Width: 64, A: 1}, api.ErrArg},
		{api.Init{Kind: api.InitZero, Rows: 1, Cols: 1, Width: 64, B: api.NaN}, api.ErrArg},
		{api.Init{Kind: api.InitConst, Rows: 1, Cols: 1, Width: 64, A: one, B: minus}, api.ErrArg},
		{api.Init{Kind: api.InitConst, Rows: 1, Cols: 1, Width: 64, A: one, B: two}, api.ErrArg},
		{api.Init{Kind: api.InitConst, Rows: 1, Cols: 1, Width: 64, A: one}, api.OK},
		{api.Init{Kind: api.InitNormal, Rows: 1, Cols: 1, Width: 64, A: one, B: api.NaN}, api.ErrArg},
		{api.Init{Kind: api.InitNormal, Rows: 1, Cols: 1, Width: 64, A: one}, api.OK},
		{api.Init{Kind: api.InitConst, Rows: 1, Cols: 1, Width: 32, A: bitsOf(1e300), B: 1}, api.ErrArg},
		{api.Init{Kind: api.InitUniform, Rows: 1, Cols: 1, Width: 64, A: api.NaN, B: api.Inf}, api.ErrNaN},
		{api.Init{Kind: api.InitUniform, Rows: 1, Cols: 1, Width: 64, A: api.Inf, B: api.NaN}, api.ErrInf},
		{api.Init{Kind: api.InitUniform, Rows: 1, Cols: 1, Width: 64, A: one, B: -1}, api.ErrNaN},
		{api.Init{Kind: api.InitUniform, Rows: 1, Cols: 1, Width: 64, A: one, B: api.Inf | minus}, api.ErrInf},
		{api.Init{Kind: api.InitUniform, Rows: 1, Cols: 1, Width: 32, A: bitsOf(1e300), B: bitsOf(-1e300)}, api.ErrArg},
		{api.Init{Kind: api.InitUniform, Rows: 1, Cols: 1, Width: 32, A: bitsOf(1e300), B: bitsOf(1e300)}, api.ErrInf},
		{api.Init{Kind: api.InitUniform, Rows: 1, Cols: 1, Width: 32, A: bitsOf(-1e300), B: bitsOf(-1e299)}, api.ErrInf},
		{api.Init{Kind: api.InitUniform, Rows: 1, Cols: 1, Width: 64, A: 1, B: 0}, api.ErrArg},
		{api.Init{Kind: api.InitUniform, Rows: 1, Cols: 1, Width: 64, A: 0, B: minus}, api.OK},
		{api.Init{Kind: api.InitUniform, Rows: 1, Cols: 1, Width: 64, A: minus, B: 0}, api.OK},
		{api.Init{Kind: api.InitConst, Rows: 1, Cols: 1, Width: 32, A: toInf}, api.ErrInf},
		{api.Init{Kind: api.InitConst, Rows: 1, Cols: 1, Width: 32, A: toInf | minus}, api.ErrInf},
		{api.Init{Kind: api.InitConst, Rows: 1, Cols: 1, Width: 32, A: toInf - 1}, api.OK},
	} {
		m, e := start.Make(c.x, 0, 0)
		if e != c.want || e != api.OK && !same(m, api.Matrix{}) {
			t.Errorf("%d: %+v: %v, %v, want %v", i, c.x, m, e, c.want)
		}
	}
}
