package block_test

import (
	"math"
	"testing"

	"pupil/api"
	"pupil/block"
)

// putBy tells the nodes that a call put.
func putBy(t *testing.T, made api.Tape, c call) []api.Node {
	t.Helper()
	got, _, e := c.do(made)
	if e != api.OK {
		t.Fatalf("%v: %v", c, e)
	}
	return got.Nodes[len(made.Nodes):]
}

// TestP1402Eps: a number that is handed in as the bits of a binary64 is rounded once to 32, and stays as it is in 64.
func TestP1402Eps(t *testing.T) {
	for _, x := range []struct{ eps, narrow int }{
		{0, 0},
		{math.MinInt, 1 << 31}, // -0
		{0x3FF0000000000000, 0x3F800000},
		{0x3FB999999999999A, 0x3DCCCCCD}, // 0.1
		{0x3EE4F8B588E368F1, 0x3727C5AC}, // 0.00001
		{-0x4010000000000000, 0xBF800000},
		{0x3FF0000010000000, 0x3F800000},  // halfway, to the even one below
		{0x3FF0000030000000, 0x3F800002},  // halfway, to the even one above
		{0x3FF0000010000001, 0x3F800001},  // a little more
		{0x3FF000002FFFFFFF, 0x3F800001},  // a little less
		{0x3FEFFFFFF0000000, 0x3F800000},  // halfway to the next power of 2
		{0x47EFFFFFE0000000, 0x7F7FFFFF},  // the greatest binary32
		{0x47EFFFFFEFFFFFFF, 0x7F7FFFFF},  // the greatest that comes to it
		{0x3810000000000000, 0x00800000},  // the least normal one
		{0x380FFFFFFFFFFFFF, 0x00800000},  // a little less
		{0x380FFFFFC0000000, 0x007FFFFF},  // the greatest subnormal one
		{0x36A0000000000000, 1},           // the least one above 0
		{0x36A8000000000000, 2},           // halfway between the first two
		{0x36B4000000000000, 2},           // halfway between the second and the third
		{0x3690000000000000, 0},           // halfway between 0 and the first
		{0x3690000000000001, 1},           // a little more
		{-0x4970000000000000, 1 << 31},    // the same below 0: it comes to -0
		{-0x496FFFFFFFFFFFFF, 1<<31 | 1},  // a little less
		{1, 0},                            // the least binary64 above 0
		{math.MinInt + 1, 1 << 31},        // the greatest one below 0
		{0x3F800000, 0},                   // no bits of a binary32 are meant
		{0xFFFFFFFF, 0},                   // nor these
		{0x7FEFFFFFFFFFFFFF, api.Inf32},   // the greatest binary64
		{-0x0010000000000001, 0xFF800000}, // the least one
		{0x47EFFFFFF0000000, api.Inf32},   // halfway beyond the greatest binary32
		{-0x3810000010000000, 0xFF800000}, // below 0
		{0x47F0000000000000, api.Inf32},   // 2^128
		{0x7E37E43C8800759C, api.Inf32},   // 1e300
		{api.Inf, api.Inf32},              // infinite
		{-0x0010000000000000, 0xFF800000}, // below 0
		{api.NaN, api.NaN32},              // no number
		{0x7FF0000000000001, api.NaN32},   // nor this
		{-1, api.NaN32},                   // nor this
		{math.MaxInt, api.NaN32},          // nor this
		{-0x000FFFFFFFFFFFFF, api.NaN32},  // nor this
		{-0x0008000000000000, api.NaN32},  // nor this
		{0x7FF7FFFFFFFFFFFF, api.NaN32},   // nor this
		{0x7FF8000000000000, api.NaN32},   // nor this
	} {
		for _, width := range widths {
			made := leaves(width, [2]int{1, 2})
			want := bitsOf{32: x.narrow, 64: x.eps}[width]
			switch f := math.Float64frombits(uint64(x.eps)); {
			case f != f:
				wantError(t, made, norm(1, 1, 1, x.eps), api.ErrNaN)
			case math.IsInf(f, 0) || width == 32 && want&0x7FFFFFFF == api.Inf32:
				wantError(t, made, norm(1, 1, 1, x.eps), api.ErrInf)
			default:
				if n := putBy(t, made, norm(1, 1, 1, x.eps))[7]; !sameTape(tapeOf(n), tapeOf(constant(1, 1, width, want))) {
					t.Errorf("eps %#x in %d: %v; want %#x", x.eps, width, n, want)
				}
			}
		}
	}
}

// TestP1402Counts: of every number of columns that there may be the count, and its root, rounded once.
func TestP1402Counts(t *testing.T) {
	whole, uneven := 0, 0
	for d := 1; d <= api.MaxElems; d++ {
		for _, width := range widths {
			made := leaves(width, [2]int{1, d})
			root := rootOf(d, width)
			if n := putBy(t, made, attend(1, 1, 1))[2]; !sameTape(tapeOf(n), tapeOf(constant(1, 1, width, root))) {
				t.Errorf("the root of %d in %d: %v; want %#x", d, width, n, root)
			}
			count := constant(1, 1, width, wholeOf(d, width))
			if n := putBy(t, made, norm(1, 1, 1, 0))[1]; !sameTape(tapeOf(n), tapeOf(count)) {
				t.Errorf("the count of %d in %d: %v", d, width, n)
			}
			if n := putBy(t, made, pool(1, d, api.PoolMean))[2]; !sameTape(tapeOf(n), tapeOf(count)) {
				t.Errorf("the size %d in %d: %v", d, width, n)
			}
			if s := int(math.Sqrt(float64(d))); s*s == d {
				whole++
				if root != wholeOf(s, width) {
					t.Errorf("the root of %d is %d", d, s)
				}
			} else {
				uneven++
			}
		}
	}
	if whole != 2*64 || uneven != 2*(4096-64) {
		t.Errorf("%d whole roots, %d others", whole, uneven)
	}
}

// TestP1402First: the constants have the width of the node that is named first, whatever the others have.
func TestP1402First(t *testing.T) {
	great := 0x7E37E43C8800759C // 1e300, which a binary32 has not
	mixed := tapeOf(input(0, 1, 3, 64), input(1, 1, 3, 32), param(0, 1, 3, 64), param(1, 1, 3, 32), takes(api.OpNeg, 0))
	wantError(t, mixed, norm(1, 0, 0, great), api.ErrInf)   // at the constant, ahead of the gain's width
	wantError(t, mixed, norm(1, 1, 0, great), api.ErrInf)   // ahead of the bias's width
	wantError(t, mixed, norm(0, 1, 1, great), api.ErrWidth) // 64 has it
	wantError(t, mixed, norm(1, 0, 1, 0), api.ErrWidth)
	wantError(t, mixed, norm(1, 1, 0, 0), api.ErrWidth)
	wantError(t, mixed, attend(1, 0, 0), api.ErrWidth)
	wantError(t, mixed, attend(1, 1, 0), api.ErrWidth)
	for _, x := range []struct{ first, width int }{{0, 64}, {1, 32}, {2, 64}, {3, 32}, {4, 64}} {
		for _, c := range []call{pool(x.first, 3, api.PoolMean), norm(x.first, x.first, x.first, 0), attend(x.first, x.first, x.first)} {
			count := 0
			for _, n := range putBy(t, mixed, c) {
				if n.Op == api.OpConst {
					count++
					if n.Width != x.width {
						t.Errorf("%v: a constant of width %d", c, n.Width)
					}
				}
			}
			if count == 0 {
				t.Errorf("%v puts no constant", c)
			}
		}
	}
}

// TestP1402Great: counts that a width has not are rounded once, and so are their roots: not the root of the rounded count.
func TestP1402Great(t *testing.T) {
	for _, x := range []struct{ n, width, whole, root int }{
		{1 << 24, 32, 0x4B800000, 0x45800000},
		{1<<24 + 1, 32, 0x4B800000, 0x45800000},
		{1<<24 + 3, 32, 0x4B800002, 0x45800001},
		{16785411, 32, 0x4B801002, 0x45800800},
		{16785415, 32, 0x4B801004, 0x45800801},
		{1<<53 + 1, 64, 0x4340000000000000, 0x4196A09E667F3BCD},
		{1<<53 + 3, 64, 0x4340000000000002, 0x4196A09E667F3BCE},
		{math.MaxInt, 64, 0x43E0000000000000, 0x41E6A09E667F3BCD},
		{math.MaxInt, 32, 0x5F000000, 0x4F3504F3},
		{0, 32, 0, 0},
	} {
		whole, root := block.Constants(x.n, x.width)
		if !sameTape(tapeOf(whole, root), tapeOf(constant(1, 1, x.width, x.whole), constant(1, 1, x.width, x.root))) {
			t.Errorf("%d in %d: %v, %v; want %#x, %#x", x.n, x.width, whole, root, x.whole, x.root)
		}
		if x.whole != wholeOf(x.n, x.width) || x.root != rootOf(x.n, x.width) {
			t.Errorf("%d in %d: %#x, %#x", x.n, x.width, wholeOf(x.n, x.width), rootOf(x.n, x.width))
		}
	}
}
