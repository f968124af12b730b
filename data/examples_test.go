package data_test

import (
	"math"
	"slices"
	"testing"

	"pupil/api"
	"pupil/data"
)

// TestExamples: the chapter's table, line by line.
func TestExamples(t *testing.T) {
	for _, c := range []struct {
		n, parts int
		want     [][2]int
		e        api.Errno
	}{
		{7, 3, [][2]int{{0, 3}, {3, 5}, {5, 7}}, api.OK}, {1, 2, [][2]int{{0, 1}, {1, 1}}, api.OK}, {0, 1, [][2]int{{0, 0}}, api.OK},
		{1, 17, nil, api.ErrLong}, {1, 0, nil, api.ErrArg},
	} {
		if got, e := data.Shards(c.n, c.parts); !slices.Equal(got, c.want) || e != c.e {
			t.Errorf("Shards(%d, %d): %v, %v", c.n, c.parts, got, e)
		}
	}
	n, e := data.Batches(7, 3)
	m, f := data.Batches(4097, 1)
	if n != 3 || e != api.OK || m != 0 || f != api.ErrLong {
		t.Errorf("Batches: %d, %v; %d, %v", n, e, m, f)
	}
	rows := vals(3, 1, 64, 1, 2, 3)
	wantScale(t, rows, []int{pattern(2, 64)}, []int{0x3FEA20BD700C2C3E})
	wantScaled(t, rows, vals(1, 1, 64, 2), vals(1, 1, 64, 0.5), vals(3, 1, 64, -2, 0, 2), 0, api.OK)
	wantScaled(t, rows, vals(1, 1, 64, 2), vals(1, 1, 64, 0), vals(3, 1, 64, -1, 0, 1), 0, api.OK)
	wantCheck(t, api.Set{X: vals(2, 1, 64, 1, math.Inf(1)), Y: vals(2, 1, 64, math.NaN(), 0)}, 0, api.ErrNaN)
	s := setOf(3, 2, 1, 64)
	wantNoPick(t, s, []int{}, api.ErrNone)
	if x, y, e := data.Row(s, 3); !zero(x) || !zero(y) || e != api.ErrRow {
		t.Errorf("Row: %x, %x, %v", x, y, e)
	}
}
