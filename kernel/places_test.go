package kernel_test

import (
	"math/rand"
	"reflect"
	"slices"
	"testing"

	"pupil/api"
	"pupil/kernel"
)

func TestP803Places(t *testing.T) {
	for _, x := range wrongs() {
		if places, e := kernel.Places(x.m); len(places) != 0 || e != x.want {
			t.Errorf("Places(%v): %v, %v; want %v", x.m, places, e, x.want)
		}
	}
	for _, width := range widths {
		for i, s := range append(shapes(), full()...) {
			for _, kind := range kinds {
				m := kind(s[0], s[1], width, 1000+i)
				if s[1] > 100 {
					clear(m.Bits[10:]) // few that are unlike, so that the plain search ends soon
				}
				var want []int
				for _, row := range gridOf(m) {
					want = append(want, placeOf(row))
				}
				if places, e := kernel.Places(m); e != api.OK || !reflect.DeepEqual(places, want) {
					t.Errorf("Places(%d by %d, %d): %v, %v; want %v", s[0], s[1], width, places, e, want)
				}
			}
		}
	}
}

// TestP803Rows: the greatest twice, noughts of both signs, what is no number once and twice.
func TestP803Rows(t *testing.T) {
	for _, x := range []struct {
		row  []float64
		want int
	}{
		{[]float64{5}, 0}, {[]float64{none}, 0}, {[]float64{-inf}, 0},
		{[]float64{1, 2, 3}, 2}, {[]float64{3, 2, 1}, 0}, {[]float64{1, 3, 3, 2}, 1}, {[]float64{3, 1, 3}, 0},
		{[]float64{0, minus, -1}, 0}, {[]float64{minus, 0, -1}, 0}, {[]float64{-1, minus, 0}, 1}, {[]float64{-1, 0, minus}, 1},
		{[]float64{-inf, -inf}, 0}, {[]float64{1, inf, inf}, 1}, {[]float64{-5, -3, -4}, 1}, {[]float64{-0x1p-149, minus}, 1}, {[]float64{0, 0x1p-149}, 1},
		{[]float64{1, none, 3}, 1}, {[]float64{inf, 2, none}, 2}, {[]float64{none, 5}, 0}, {[]float64{inf, none, none}, 1}, {[]float64{none, inf, none}, 0},
	} {
		for _, width := range widths {
			n := len(x.row)
			if places, e := kernel.Places(ofWidth(width, 1, n, x.row...)); e != api.OK || !slices.Equal(places, []int{x.want}) {
				t.Errorf("Places(%v): %v, %v; want %d", x.row, places, e, x.want)
			}
			// Between other rows it is as it is alone.
			three := slices.Concat(slices.Repeat([]float64{inf}, n), x.row, slices.Repeat([]float64{-1}, n))
			if places, e := kernel.Places(ofWidth(width, 3, n, three...)); e != api.OK || !slices.Equal(places, []int{0, x.want, 0}) {
				t.Errorf("Places(%v): %v, %v; want %d", three, places, e, x.want)
			}
		}
	}
	for _, width := range widths {
		for _, b := range nones(width) {
			m := api.Matrix{Rows: 1, Cols: 4, Width: width, Bits: []int{bitsOf(inf, width), 0, b, b}}
			if places, e := kernel.Places(m); e != api.OK || !slices.Equal(places, []int{2}) {
				t.Errorf("Places with %#x: %v, %v", b, places, e)
			}
		}
	}
}

func TestP804Dot(t *testing.T) {
	for _, width := range widths {
		for i, s := range append(shapes(), full()...) {
			for _, kind := range kinds {
				a, b := kind(s[0], s[1], width, 1010+i), kind(s[0], s[1], width, 1020+i)
				want := bitsOf(exactly(gridOf(a).list(), gridOf(b).list(), 1, width), width)
				if dot, e := kernel.Dot(a, b); e != api.OK || dot != want {
					t.Errorf("Dot(%d by %d, %d): %#x, %v; want %#x", s[0], s[1], width, dot, e, want)
				}
			}
		}
	}
	for _, x := range []struct {
		a, b []float64
		want float64
	}{
		{[]float64{3, 4}, []float64{3, 4}, 25},
		{[]float64{minus, 0}, []float64{1, minus}, 0},
		{[]float64{0x1p100, 3, 0x1p100}, []float64{0x1p100, 5, -0x1p100}, 15},
		{[]float64{inf, 1}, []float64{0, 1}, none},
		{[]float64{inf, inf}, []float64{1, -1}, none},
		{[]float64{-inf, 2}, []float64{3, -2}, -inf},
		{[]float64{none, 2}, []float64{3, -2}, none},
	} {
		for _, width := range widths {
			n := len(x.a)
			for _, s := range [][2]int{{1, n}, {n, 1}} {
				if dot, e := kernel.Dot(ofWidth(width, s[0], s[1], x.a...), ofWidth(width, s[0], s[1], x.b...)); e != api.OK || dot != bitsOf(x.want, width) {
					t.Errorf("Dot(%v, %v): %#x, %v", x.a, x.b, dot, e)
				}
			}
		}
	}
}

// TestP804Order: the first one's error, the second one's, the width, the shape.
func TestP804Order(t *testing.T) {
	bad := func(a, b api.Matrix, want api.Errno) {
		t.Helper()
		if dot, e := kernel.Dot(a, b); dot != 0 || e != want {
			t.Errorf("Dot(%v, %v): %#x, %v; want %v", a, b, dot, e, want)
		}
	}
	for _, x := range wrongs() {
		bad(x.m, of(1, 1, 1), x.want)
		bad(of(1, 1, 1), x.m, x.want)
		bad(ofWidth(32, 1, 2, 1, 2), x.m, x.want)
		for _, y := range wrongs() {
			bad(x.m, y.m, x.want)
		}
	}
	bad(of(1, 1, 1), ofWidth(32, 1, 1, 1), api.ErrWidth)
	bad(ofWidth(32, 1, 2, 1, 2), of(1, 1, 1), api.ErrWidth)
	bad(of(1, 2, 1, 2), of(2, 1, 1, 2), api.ErrShape)
	bad(of(1, 2, 1, 2), of(1, 1, 1), api.ErrShape)
	bad(of(1, 1, 1), of(2, 1, 1, 2), api.ErrShape)
	bad(of(2, 3, 1, 2, 3, 4, 5, 6), of(3, 2, 1, 2, 3, 4, 5, 6), api.ErrShape)
}

// exchanged tells a matrix with its rows, its columns, in another order.
func exchanged(m api.Matrix, rows, cols []int) api.Matrix {
	out := m
	out.Bits = make([]int, len(m.Bits))
	for r, from := range rows {
		for c, at := range cols {
			out.Bits[r*m.Cols+c] = m.Bits[from*m.Cols+at]
		}
	}
	return out
}

// counting tells 0, 1, .. to below n.
func counting(n int) []int {
	var list []int
	for i := range n {
		list = append(list, i)
	}
	return list
}

// TestP805Order: exchanging what is summed turns no bit.
func TestP805Order(t *testing.T) {
	r := rand.New(rand.NewSource(805))
	for _, width := range widths {
		for i := range 60 {
			rows, inner, cols := 1+r.Intn(4), 1+r.Intn(12), 1+r.Intn(4)
			kind := kinds[i%3]
			x, y := kind(rows, inner, width, 1030+i), kind(inner, cols, width, 1040+i)
			order, other := r.Perm(inner), r.Perm(rows)
			a, e := kernel.Do(api.OpProduct, 0, 0, list(x, y))
			b, err := kernel.Do(api.OpProduct, 0, 0, list(exchanged(x, counting(rows), order), exchanged(y, order, counting(cols))))
			if e != err || !reflect.DeepEqual(a, b) {
				t.Errorf("OpProduct in another order: %v, not %v", b, a)
			}
			z := exchanged(x, other, order)
			for op, sameAs := range map[int]api.Matrix{api.OpSum: z, api.OpMean: z, api.OpSumRows: exchanged(x, counting(rows), order), api.OpSumCols: exchanged(x, other, counting(inner))} {
				a, e := kernel.Do(op, 0, 0, list(x))
				b, err := kernel.Do(op, 0, 0, list(sameAs))
				if e != err || !reflect.DeepEqual(a, b) {
					t.Errorf("%d in another order: %v, not %v", op, b, a)
				}
			}
			u := kind(rows, inner, width, 1050+i)
			dot, e := kernel.Dot(x, u)
			for _, pair := range [][2]api.Matrix{{u, x}, {z, exchanged(u, other, order)}} {
				if again, err := kernel.Dot(pair[0], pair[1]); again != dot || err != e {
					t.Errorf("Dot in another order: %#x, not %#x", again, dot)
				}
			}
		}
	}
}
