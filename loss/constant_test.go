package loss_test

import (
	"math"
	"testing"

	"pupil/api"
)

// floats has binary64 as their bits, and what comes of them in 32.
var floats = []struct{ wide, narrow int }{
	{0, 0},
	{math.MinInt, 1 << 31}, // -0
	{one, 0x3F800000},
	{minus, 0xBF800000},
	{0x3FB999999999999A, 0x3DCCCCCD},  // 0.1
	{-0x4046666666666666, 0xBDCCCCCD}, // -0.1
	{0x3FF0000010000000, 0x3F800000},  // halfway, to the even one below
	{0x3FF0000030000000, 0x3F800002},  // halfway, to the even one above
	{0x3FF0000010000001, 0x3F800001},  // a little more
	{0x3FF000002FFFFFFF, 0x3F800001},  // a little less
	{0x47EFFFFFE0000000, 0x7F7FFFFF},  // the greatest binary32
	{0x47EFFFFFEFFFFFFF, 0x7F7FFFFF},  // the greatest that comes to it
	{-0x3810000020000000, 0xFF7FFFFF}, // the least binary32
	{0x3810000000000000, 0x00800000},  // the least normal one
	{0x380FFFFFC0000000, 0x007FFFFF},  // the greatest subnormal one
	{0x36A0000000000000, 1},           // the least one above 0
	{0x36A8000000000000, 2},           // halfway between the first two
	{0x3690000000000001, 1},           // a little more than halfway between 0 and the first
	{0x3690000000000000, 0},           // halfway
	{-0x4970000000000000, 1 << 31},    // the same below 0: it comes to -0
	{1, 0},                            // the least binary64 above 0
	{math.MinInt + 1, 1 << 31},        // the greatest one below 0
	{0x000FFFFFFFFFFFFF, 0},           // the greatest subnormal one
	{0x3F800000, 0},                   // no bits of a binary32 are meant
	{0xFFFFFFFF, 0},                   // nor these
	{0x47EFFFFFF0000000, api.Inf32},   // halfway beyond the greatest binary32
	{-0x3810000010000000, 0xFF800000}, // below 0
	{0x7E37E43C8800759C, api.Inf32},   // 1e300
	{0x7FEFFFFFFFFFFFFF, api.Inf32},   // the greatest binary64
	{-0x0010000000000001, 0xFF800000}, // the least one
	{api.Inf, api.Inf32},              // infinite
	{-0x0010000000000000, 0xFF800000}, // below 0
	{api.NaN, api.NaN32},              // no number
	{0x7FF0000000000001, api.NaN32},   // nor this
	{-1, api.NaN32},                   // nor this
	{math.MaxInt, api.NaN32},          // nor this
	{-0x000FFFFFFFFFFFFF, api.NaN32},  // nor this
}

// wantConstant wants a call that hands in a binary64 to put its constant, or to be refused where that is not finite.
func wantConstant(t *testing.T, made api.Tape, c call, at, width, wide, narrow int) {
	t.Helper()
	want := bitsOf{32: narrow, 64: wide}[width]
	switch f := math.Float64frombits(uint64(wide)); {
	case f != f:
		wantError(t, made, c, api.ErrNaN)
	case math.IsInf(f, 0) || width == 32 && want&0x7FFFFFFF == api.Inf32:
		wantError(t, made, c, api.ErrInf)
	default:
		if n := putBy(t, made, c)[at]; !sameTape(tapeOf(n), tapeOf(constant(1, 1, width, want))) {
			t.Errorf("%#x in %d: %v; want %#x", wide, width, n, want)
		}
	}
}

// TestP1503Delta: delta is above 0, and rounded once to y's width: to 0 too; infinity is refused as any constant.
func TestP1503Delta(t *testing.T) {
	put := 0
	for _, width := range widths {
		for _, x := range floats {
			if !(math.Float64frombits(uint64(x.wide)) > 0) {
				wantSaid(t, board(width), huber(1, 2, x.wide), api.ErrArg)
				continue
			}
			wantConstant(t, board(width), huber(1, 2, x.wide), 2, width, x.wide, x.narrow)
			wantConstant(t, board(width), huber(3, 3, x.wide), 2, width, x.wide, x.narrow)
			put++
		}
	}
	if put < 30 {
		t.Errorf("%d above 0", put)
	}
}

// TestP1505Factor: factor may be any finite number, rounded once to y's width; -0 stays -0.
func TestP1505Factor(t *testing.T) {
	for _, width := range widths {
		for _, x := range floats {
			for kind := api.CostAbs; kind <= api.CostSquare; kind++ {
				wantConstant(t, board(width), penalty(6, kind, x.wide, 3), 2, width, x.wide, x.narrow)
				wantConstant(t, board(width), penalty(7, kind, x.wide, 1, 2, 7), 8, width, x.wide, x.narrow)
			}
		}
	}
}

// TestP1504Rows: of every number of rows that there may be the count.
func TestP1504Rows(t *testing.T) {
	for rows := 1; rows <= api.MaxElems; rows++ {
		for _, width := range widths {
			made := leaves(width, [2]int{rows, 1}, [2]int{1, rows})
			if n := putBy(t, made, cross(1, 1))[3]; !sameTape(tapeOf(n), tapeOf(constant(1, 1, width, floatOf(float64(rows), width)))) {
				t.Errorf("%d rows in %d: %v", rows, width, n)
			}
			if n := putBy(t, made, cross(2, 2))[3]; !sameTape(tapeOf(n), tapeOf(number(width, ones))) {
				t.Errorf("one row in %d: %v", width, n)
			}
		}
	}
}

// TestP1501Widths: the constants have the width of y, whatever the other nodes have.
func TestP1501Widths(t *testing.T) {
	great := 0x7E37E43C8800759C // 1e300, which a binary32 has not
	mixed := tapeOf(input(0, 1, 3, 64), input(1, 1, 3, 32), param(0, 1, 1, 64), param(1, 1, 1, 32), takes(api.OpNarrow, 2))
	for kind := api.CostAbs; kind <= api.CostSquare; kind++ {
		wantError(t, mixed, penalty(3, kind, great, 0), api.ErrInf)   // at the constant, ahead of its product with the sum
		wantError(t, mixed, penalty(2, kind, great, 1), api.ErrWidth) // 64 has it; the product does not go
		wantError(t, mixed, penalty(3, kind, half, 0), api.ErrWidth)
		wantError(t, mixed, penalty(2, kind, half, 1), api.ErrWidth)
		wantError(t, mixed, penalty(3, kind, great, 1, 0), api.ErrWidth) // at the sum of two, ahead of the constant
		wantError(t, mixed, penalty(2, kind, api.NaN, 0, 0, 1), api.ErrWidth)
		wantError(t, mixed, penalty(2, kind, api.NaN, 1), api.ErrNaN)
	}
	for _, x := range []struct{ y, width int }{{0, 64}, {1, 32}, {2, 64}, {3, 32}, {4, 32}} {
		calls := []call{huber(x.y, x.y, half), cross(x.y, x.y), hinge(x.y, x.y)}
		if x.y > 1 {
			calls = append(calls, penalty(x.y, api.CostAbs, half, x.y, x.y))
		}
		for _, c := range calls {
			count := 0
			for _, n := range putBy(t, mixed, c) {
				if n.Op == api.OpConst {
					count++
					if n.Width != x.width {
						t.Errorf("%v: a constant of width %d", c, n.Width)
					}
				}
			}
			if want := map[string]int{"Huber": 2, "Cross": 1, "Hinge": 1, "Penalty": 1}[c.name]; count != want {
				t.Errorf("%v puts %d constants", c, count)
			}
		}
	}
}
