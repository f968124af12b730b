package start_test

import (
	"testing"

	"pupil/api"
	"pupil/start"
)

// TestExamples: the chapter's table, line by line.
func TestExamples(t *testing.T) {
	m, e := start.Make(api.Init{Kind: api.InitConst, Rows: 1, Cols: 2, Width: 32, A: bitsOf(0.1)}, 0, 0)
	if e != api.OK || !same(m, api.Matrix{Rows: 1, Cols: 2, Width: 32, Bits: []int{0x3DCCCCCD, 0x3DCCCCCD}}) {
		t.Errorf("0.1 in width 32: %v, %v", m, e)
	}
	for i, c := range []struct {
		x    api.Init
		want api.Errno
	}{
		{api.Init{Kind: 6, Rows: 1, Cols: 1, Width: 64}, api.ErrRule},
		{api.Init{Kind: api.InitZero, Rows: 0, Cols: 1, Width: 64}, api.ErrShape},
		{api.Init{Kind: api.InitConst, Rows: 1, Cols: 1, Width: 64, A: api.Inf}, api.ErrInf},
		{api.Init{Kind: api.InitConst, Rows: 1, Cols: 1, Width: 32, A: bitsOf(1e300)}, api.ErrInf},
		{api.Init{Kind: api.InitUniform, Rows: 1, Cols: 1, Width: 64, A: bitsOf(1), B: 0}, api.ErrArg},
		{api.Init{Kind: api.InitZero, Rows: 1, Cols: 1, Width: 64, A: bitsOf(1)}, api.ErrArg},
	} {
		if m, e := start.Make(c.x, 0, 0); e != c.want || !same(m, api.Matrix{}) {
			t.Errorf("line %d: %v, %v, want %v", i, m, e, c.want)
		}
	}
	// u 0 makes -L.
	glorot := must(t, api.Init{Kind: api.InitGlorot, Rows: 2, Cols: 1, Width: 64}, seedOf(0, 3), 3)
	he := must(t, api.Init{Kind: api.InitHe, Rows: 6, Cols: 1, Width: 64}, seedOf(0, 3), 3)
	if glorot.Bits[0] != 0x3FF6A09E667F3BCD|minus || he.Bits[0] != bitsOf(-1) {
		t.Errorf("L: %x, %x", glorot.Bits[0], he.Bits[0])
	}
}
