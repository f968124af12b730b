package loss_test

import (
	"math"
	"math/rand"
	"slices"
	"testing"

	"pupil/api"
	"pupil/eval"
)

// of tells a matrix of numbers.
func of(rows, cols, width int, list ...float64) api.Matrix {
	m := api.Matrix{Rows: rows, Cols: cols, Width: width}
	for _, f := range list {
		m.Bits = append(m.Bits, floatOf(f, width))
	}
	return m
}

func sameMatrix(a, b api.Matrix) bool {
	return a.Rows == b.Rows && a.Cols == b.Cols && a.Width == b.Width && slices.Equal(a.Bits, b.Bits)
}

// valueOf tells the number of some bits.
func valueOf(b, width int) float64 {
	if width == 32 {
		return float64(math.Float32frombits(uint32(b)))
	}
	return math.Float64frombits(uint64(b))
}

// cameTo tells what a call's last node comes to, with the matrices as inputs 0, 1, ..; false: the tape stops.
func cameTo(t *testing.T, c call, inputs ...api.Matrix) (int, bool) {
	t.Helper()
	var made api.Tape
	for i, m := range inputs {
		made.Nodes = append(made.Nodes, input(i, m.Rows, m.Cols, m.Width))
	}
	made, number, e := c.do(made)
	if e != api.OK {
		t.Fatalf("%v: %v", c, e)
	}
	values, f := eval.Run(made, inputs, nil)
	if f.Err != api.OK {
		return 0, false
	}
	m := values[number]
	if m.Rows != 1 || m.Cols != 1 || m.Width != inputs[0].Width {
		t.Fatalf("%v comes to %v", c, m)
	}
	return m.Bits[0], true
}

// TestValues: what the losses come to, where it can be told by hand.
func TestValues(t *testing.T) {
	for _, width := range widths {
		y, want := of(2, 2, width, 1, -3, 0, 6), of(2, 2, width, 0, 1, 0, 4)
		sign := of(2, 2, width, 1, -1, 1, -1)
		nought, first := of(2, 2, width, 0, 0, 0, 0), of(2, 2, width, 1, 0, 0, 1)
		steep, last := of(2, 2, width, 1000, 0, 0, 1000), of(2, 2, width, 0, 1, 0, 0)
		ten := of(1, 1, width, 10)
		for _, x := range []struct {
			call call
			in   []api.Matrix
			want float64
		}{
			{squared(0, 1), []api.Matrix{y, want}, 5.25},
			{squared(1, 0), []api.Matrix{y, want}, 5.25},
			{absolute(0, 1), []api.Matrix{y, want}, 1.75},
			{huber(0, 1, half), []api.Matrix{y, want}, 0.78125},             // 0.375, 1.875, 0, 0.875
			{huber(0, 1, one), []api.Matrix{y, want}, 1.375},                // 0.5, 3.5, 0, 1.5
			{huber(0, 1, two), []api.Matrix{y, want}, 2.125},                // 0.5, 6, 0, 2
			{huber(0, 1, 0x4010000000000000), []api.Matrix{y, want}, 2.625}, // 4, as far as the farthest: half of Squared
			{huber(0, 1, 0x4630000000000000), []api.Matrix{y, want}, 2.625}, // 2^100
			{huber(0, 1, 1), []api.Matrix{y, want}, 0},                      // so little that it is lost
			{hinge(0, 1), []api.Matrix{y, sign}, 2},                         // 0, 0, 1, 7
			{cross(0, 1), []api.Matrix{nought, first}, math.Ln2},
			{cross(0, 1), []api.Matrix{steep, first}, 0},
			{cross(0, 1), []api.Matrix{steep, last}, 500}, // 1000 and 0, by two rows
			{logistic(0, 1), []api.Matrix{nought, first}, math.Ln2},
			{logistic(0, 1), []api.Matrix{steep, first}, math.Ln2 / 2},
			{logistic(0, 1), []api.Matrix{steep, nought}, 500 + math.Ln2/2},
			{penalty(0, api.CostAbs, half, 1), []api.Matrix{ten, y}, 15},
			{penalty(0, api.CostSquare, half, 1), []api.Matrix{ten, y}, 33},
			{penalty(0, api.CostAbs, minus, 1, 2, 1), []api.Matrix{ten, y, want}, -15},
			{penalty(0, api.CostSquare, one, 2, 0), []api.Matrix{ten, y, want}, 127},
			{penalty(0, api.CostSquare, 0, 1), []api.Matrix{ten, y}, 10},
		} {
			got, ok := cameTo(t, x.call, x.in...)
			if f := valueOf(got, width); !ok || f != valueOf(floatOf(x.want, width), width) {
				t.Errorf("%v in %d: %v, %v; want %v", x.call, width, f, ok, x.want)
			}
		}
	}
}

// anyFloat tells a finite float of a width: a small number, one of any size, or one at an end.
func anyFloat(r *rand.Rand, width int) int {
	switch r.Intn(4) {
	case 0:
		return floatOf(float64(r.Intn(9)-4), width)
	case 1:
		return floatOf(r.NormFloat64(), width)
	case 2:
		top := map[int][]int{32: {0, 1, 0x007FFFFF, 0x00800000, 0x7F7FFFFF}, 64: {0, 1, 0x000FFFFFFFFFFFFF, 0x0010000000000000, 0x7FEFFFFFFFFFFFFF}}[width]
		sign := bitsOf{32: 1 << 31, 64: math.MinInt}[width]
		return top[r.Intn(len(top))] | sign*r.Intn(2)
	}
	for {
		b := int(r.Uint64())
		if width == 32 {
			b = int(r.Uint32())
		}
		if f := valueOf(b, width); !math.IsNaN(f) && !math.IsInf(f, 0) {
			return b
		}
	}
}

// anyMatrix tells a matrix of some finite floats.
func anyMatrix(r *rand.Rand, rows, cols, width int) api.Matrix {
	m := of(rows, cols, width)
	for range rows * cols {
		m.Bits = append(m.Bits, anyFloat(r, width))
	}
	return m
}

// anyDelta tells a binary64 above 0 whose number in a width is finite: also such as comes to 0 there.
func anyDelta(r *rand.Rand, width int) int {
	for {
		b := anyFloat(r, 64)
		if f := valueOf(b, 64); f > 0 && !math.IsInf(valueOf(floatOf(f, width), width), 0) {
			return b
		}
	}
}

// TestP1506Nought: where y is want, as one node or as two of the same values, Squared, Absolute and Huber are 0.
func TestP1506Nought(t *testing.T) {
	r := rand.New(rand.NewSource(1506))
	for _, width := range widths {
		for range 1500 {
			y := anyMatrix(r, 1+r.Intn(3), 1+r.Intn(3), width)
			delta := anyDelta(r, width)
			for want := range 2 {
				for _, c := range []call{squared(0, want), absolute(0, want), huber(0, want, delta)} {
					if got, ok := cameTo(t, c, y, y); !ok || got != 0 {
						t.Fatalf("%v of %v: %#x, %v", c, y, got, ok)
					}
				}
			}
		}
	}
}

// TestP1506Above: all values of Squared, Absolute, Huber and Hinge are 0 or above.
func TestP1506Above(t *testing.T) {
	r := rand.New(rand.NewSource(1507))
	for _, width := range widths {
		told := map[string]int{}
		for range 3000 {
			rows, cols := 1+r.Intn(3), 1+r.Intn(3)
			y, want := anyMatrix(r, rows, cols, width), anyMatrix(r, rows, cols, width)
			if r.Intn(2) == 0 { // near to each other, where the differences are small
				copy(y.Bits, want.Bits)
				y.Bits[0] = anyFloat(r, width)
			}
			for _, c := range []call{squared(0, 1), absolute(0, 1), huber(0, 1, anyDelta(r, width)), hinge(0, 1)} {
				got, ok := cameTo(t, c, y, want)
				if !ok {
					continue
				}
				if f := valueOf(got, width); math.Signbit(f) {
					t.Fatalf("%v of %v, %v: %v", c, y, want, f)
				} else if f > 0 {
					told[c.name]++
				}
			}
		}
		for _, c := range pairs(0, 0, 0) {
			if aside := c.name == "Cross" || c.name == "Logistic"; !aside && told[c.name] < 500 {
				t.Errorf("%s in %d: %d above 0", c.name, width, told[c.name])
			}
		}
	}
}

// TestHuberMeans: Huber is half the square up to delta, and straight beyond.
func TestHuberMeans(t *testing.T) {
	r := rand.New(rand.NewSource(1508))
	for _, width := range widths {
		near := map[int]float64{32: 1e-5, 64: 1e-13}[width]
		for range 500 {
			y, want := 16*r.Float64()-8, 16*r.Float64()-8
			y, want = valueOf(floatOf(y, width), width), valueOf(floatOf(want, width), width)
			delta := 0.25 + 8*r.Float64()
			far := math.Abs(y - want)
			exact := far * far / 2
			if far > delta {
				exact = delta * (far - delta/2)
			}
			got, ok := cameTo(t, huber(0, 1, floatOf(delta, 64)), of(1, 1, width, y), of(1, 1, width, want))
			if f := valueOf(got, width); !ok || math.Abs(f-exact) > near*(1+exact) {
				t.Errorf("Huber of %v, %v with %v in %d: %v; about %v", y, want, delta, width, f, exact)
			}
		}
	}
}
