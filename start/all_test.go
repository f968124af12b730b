package start_test

import (
	"math"
	"slices"
	"testing"

	"pupil/api"
	"pupil/start"
)

// several are Inits of all kinds that can be made.
func several() []api.Init {
	return []api.Init{
		{Kind: api.InitGlorot, Rows: 2, Cols: 3, Width: 64},
		{Kind: api.InitUniform, Rows: 1, Cols: 4, Width: 32, A: bitsOf(-1), B: bitsOf(1)},
		{Kind: api.InitZero, Rows: 3, Cols: 1, Width: 64},
		{Kind: api.InitNormal, Rows: 2, Cols: 2, Width: 64, A: bitsOf(0.5)},
		{Kind: api.InitHe, Rows: 5, Cols: 1, Width: 32},
		{Kind: api.InitConst, Rows: 1, Cols: 1, Width: 32, A: bitsOf(0.1)},
		{Kind: api.InitGlorot, Rows: 2, Cols: 3, Width: 64},
	}
}

// many tells so many of them.
func many(n int) []api.Init {
	var l []api.Init
	for len(l) < n {
		l = append(l, several()...)
	}
	return l[:n]
}

// wrong are Inits that can't be made, with their errors.
func wrong() map[api.Errno]api.Init {
	return map[api.Errno]api.Init{
		api.ErrRule:  {Kind: 6, Rows: 1, Cols: 1, Width: 64},
		api.ErrWidth: {},
		api.ErrShape: {Rows: 1, Width: 32},
		api.ErrLong:  {Rows: 65, Cols: 64, Width: 32},
		api.ErrArg:   {Kind: api.InitUniform, Rows: 1, Cols: 1, Width: 32, A: 1},
		api.ErrNaN:   {Kind: api.InitConst, Rows: 1, Cols: 1, Width: 32, A: api.NaN},
		api.ErrInf:   {Kind: api.InitConst, Rows: 1, Cols: 1, Width: 32, A: bitsOf(1e300)},
	}
}

// heldAll holds All against the reference.
func heldAll(t *testing.T, l []api.Init, seed int) {
	t.Helper()
	got, at, e := start.All(l, seed)
	if len(got) != len(l) || at != 0 || e != api.OK {
		t.Fatalf("%d parameters: %d of them, %d, %v", len(l), len(got), at, e)
	}
	for i, x := range l {
		want, _ := made(x, seed, i)
		if one := must(t, x, seed, i); !same(got[i], want) || !same(got[i], one) {
			t.Errorf("parameter %d of %d: %v, want %v, and Make tells %v", i, len(l), got[i], want, one)
		}
	}
}

// wantRefused wants All to tell an error and a place alone.
func wantRefused(t *testing.T, l []api.Init, place int, want api.Errno) {
	t.Helper()
	if got, at, e := start.All(l, 8); len(got) != 0 || at != place || e != want {
		t.Errorf("%d parameters: %v, %d, %v; want %d, %v", len(l), got, at, e, place, want)
	}
}

// TestP1602All: each parameter is what Make tells with its place as stream.
func TestP1602All(t *testing.T) {
	heldAll(t, nil, 5)
	heldAll(t, []api.Init{}, 5)
	for _, seed := range places {
		for _, n := range []int{1, 2, 3, 7, 63, 64} {
			heldAll(t, many(n), seed)
		}
	}
	l := many(2 * api.MaxParams)
	for i := range several() {
		heldAll(t, l[i:i+1], 3)
	}
}

// TestP1602TooMany: more than MaxParams are too many ahead of all that is wrong with one of them.
func TestP1602TooMany(t *testing.T) {
	for _, n := range []int{api.MaxParams + 1, api.MaxParams + 2, 1000} {
		wantRefused(t, many(n), 0, api.ErrLong)
		wantRefused(t, make([]api.Init, n), 0, api.ErrLong)
		for _, x := range wrong() {
			l := many(n)
			l[5] = x
			wantRefused(t, l, 0, api.ErrLong)
		}
	}
}

// TestP1602First: the first one that can't be made is told, with its error.
func TestP1602First(t *testing.T) {
	for want, x := range wrong() {
		for _, n := range []int{1, 3, 7, 64} {
			for place := range n {
				l := many(n)
				l[place] = x
				wantRefused(t, l, place, want)
				for _, later := range wrong() {
					for i := place + 1; i < n; i += 13 {
						l[i] = later
					}
					wantRefused(t, l, place, want)
				}
			}
		}
	}
}

// TestP1603Alone: a parameter is the same whatever stands beside it.
func TestP1603Alone(t *testing.T) {
	for place, x := range many(api.MaxParams) {
		for _, beside := range several() {
			l := slices.Repeat([]api.Init{beside}, max(place+1, (place*7)%api.MaxParams))
			l[place] = x
			got, _, e := start.All(l, 11)
			if e != api.OK || !same(got[place], must(t, x, 11, place)) {
				t.Errorf("parameter %d beside %+v: %v, %v", place, beside, got, e)
			}
		}
	}
}

// TestP1603Streams: the same Init at another place, or with another seed, is another row of numbers.
func TestP1603Streams(t *testing.T) {
	for _, x := range several() {
		if x.Kind == api.InitZero || x.Kind == api.InitConst {
			continue
		}
		l, _, _ := start.All([]api.Init{x, x}, 1)
		other, _, _ := start.All([]api.Init{x, x}, 2)
		if same(l[0], l[1]) || same(l[0], other[0]) || same(l[1], other[1]) || same(l[0], other[1]) {
			t.Errorf("%+v: %v, %v", x, l, other)
		}
	}
}

func floatOf(b, width int) float64 {
	f, _ := value(b, width).Float64()
	return f
}

// TestP1603Between: no element of InitUniform is below A or above B, each rounded to the width; both are come to.
func TestP1603Between(t *testing.T) {
	low, high := 0, 0
	for _, width := range widths {
		for i, x := range inits(api.InitUniform, 4, 4, width) {
			a, b := rounded(value(x.A, 64), width), rounded(value(x.B, 64), width)
			seed := i
			if i%3 == 0 {
				seed = seedOf(chosen[i%len(chosen)], i)
			}
			m, e := start.Make(x, seed, i)
			if e == api.ErrInf && (infinite(a, width) || infinite(b, width)) {
				continue
			}
			if e != api.OK {
				t.Errorf("%+v: %v", x, e)
			}
			for _, c := range m.Bits {
				f := floatOf(c, width)
				if !infinite(a, width) && f < floatOf(a, width) || !infinite(b, width) && f > floatOf(b, width) {
					t.Errorf("%+v: %v is not between them", x, f)
				}
				if a != b && c == a {
					low++
				}
				if a != b && c == b {
					high++
				}
			}
		}
	}
	if min(low, high) < 100 {
		t.Errorf("%d elements at A, %d at B", low, high)
	}
	next := math.Float64bits(1) + 1
	x := api.Init{Kind: api.InitUniform, Rows: 64, Cols: 64, Width: 64, A: bitsOf(1), B: int(next)}
	ones := 0
	for _, c := range must(t, x, 1, 1).Bits {
		if c == x.A {
			ones++
		} else if c != x.B {
			t.Errorf("between neighbours: %x", c)
		}
	}
	if ones < 1000 || ones > 3096 {
		t.Errorf("%d of 4096 elements are the lower one of two neighbours", ones)
	}
}
