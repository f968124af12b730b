package exact_test

import (
	"math"
	"testing"

	"pupil/api"
	"pupil/exact"
)

func b64(f float64) int { return int(math.Float64bits(f)) }

// TestExamples: the chapter's table, line by line.
func TestExamples(t *testing.T) {
	type numbered struct {
		x api.Num
		e api.Errno
	}
	number := func(x api.Num, e api.Errno) numbered { return numbered{x, e} }
	one, three := num(false, 1, 0), num(false, 3, 0)
	for i, x := range []struct{ got, want numbered }{
		{number(exact.Make(true, []int{6}, -1)), numbered{num(true, 3, 0), 0}},
		{number(exact.Make(true, []int{}, 99)), numbered{}},
		{number(exact.Make(false, []int{5, 0}, 0)), numbered{num(false, 5, 0), 0}},
		{number(exact.Make(false, []int{1 << 30}, 0)), numbered{api.Num{}, api.ErrNum}},
		{number(exact.Make(false, []int{1}, api.MaxExp)), numbered{num(false, 1, api.MaxExp), 0}},
		{number(exact.Make(false, []int{2}, api.MaxExp)), numbered{api.Num{}, api.ErrLong}},
		{number(exact.Int(-1<<63), 0), numbered{num(true, 1, 63), 0}},
		{number(exact.Of(b64(1.5), 64)), numbered{num(false, 3, -1), 0}},
		{number(exact.Of(api.Inf, 64)), numbered{api.Num{}, api.ErrBits}},
		{number(exact.Of(-1, 32)), numbered{api.Num{}, api.ErrBits}},
		{number(exact.Of(0, 16)), numbered{api.Num{}, api.ErrWidth}},
		{number(exact.Add(num(false, 1, 70000), one)), numbered{api.Num{}, api.ErrLong}},
		{number(exact.Scale(three, 1<<62)), numbered{api.Num{}, api.ErrLong}},
		{number(exact.Scale(api.Num{}, 1<<62)), numbered{}},
	} {
		if !same(x.got.x, x.want.x) || x.got.e != x.want.e {
			t.Errorf("number %d: %v, %v", i, x.got.x, x.got.e)
		}
	}
	type rounded struct {
		b     int
		other bool
		e     api.Errno
	}
	float := func(b int, other bool, e api.Errno) rounded { return rounded{b, other, e} }
	odd, odd32 := api.Num{Mag: []int{1, 1 << 23}}, num(false, 1<<24+1, 0)
	for i, x := range []struct{ got, want rounded }{
		{float(exact.Round(odd, 64, exact.Near)), rounded{b64(0x1p53), true, 0}},
		{float(exact.Round(odd, 64, exact.Up)), rounded{b64(0x1p53 + 2), true, 0}},
		{float(exact.Round(num(false, 1, 1024), 64, exact.Near)), rounded{api.Inf, true, 0}},
		{float(exact.Round(num(false, 1, 1024), 64, exact.Down)), rounded{b64(math.MaxFloat64), true, 0}},
		{float(exact.Round(num(true, 1, -1075), 64, exact.Near)), rounded{0, true, 0}},
		{float(exact.Round(num(true, 1, -1075), 64, exact.Down)), rounded{-1<<63 + 1, true, 0}},
		{float(exact.Round(odd32, 32, exact.Near)), rounded{0x4B800000, true, 0}},
		{float(exact.Round(one, 32, 5)), rounded{0, false, api.ErrArg}},
		{float(exact.Round(one, 8, 5)), rounded{0, false, api.ErrWidth}},
		{float(exact.Quot(one, three, 64, exact.Near)), rounded{0x3FD5555555555555, true, 0}},
		{float(exact.Quot(one, api.Num{}, 64, 0)), rounded{0, false, api.ErrDivide}},
		{float(exact.Root(num(false, 1, 1), 32, exact.Up)), rounded{0x3FB504F4, true, 0}},
		{float(exact.Root(num(true, 1, 0), 32, 0)), rounded{0, false, api.ErrNegative}},
	} {
		if x.got != x.want {
			t.Errorf("float %d: %+v", i, x.got)
		}
	}
}
