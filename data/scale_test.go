package data_test

import (
	"math"
	"math/rand"
	"slices"
	"testing"

	"pupil/api"
	"pupil/data"
)

// TestP1906Refused: a matrix that is not in form, and one that is not finite, by its first such element.
func TestP1906Refused(t *testing.T) {
	refused := func(m api.Matrix, want api.Errno) {
		t.Helper()
		if mean, dev, e := data.Scale(m); !zero(mean) || !zero(dev) || e != want {
			t.Errorf("Scale(%x): %x, %x, %v, want %v", m, mean, dev, e, want)
		}
	}
	for _, bad := range misshapes() {
		refused(bad.m, bad.e)
	}
	for _, w := range widths {
		for b, e := range notFinite(w) {
			for c, f := range notFinite(w) {
				for i := range 6 {
					refused(with(numbered(3, 2, w, 1), i, b), e)
					for j := range i {
						refused(with(with(numbered(3, 2, w, 1), i, b), j, c), f)
					}
				}
			}
		}
	}
}

// TestP1906Columns: each column has its own, in its own place; whole numbers whose means and roots are such.
func TestP1906Columns(t *testing.T) {
	list := func(width int, numbers ...float64) []int { return vals(1, len(numbers), width, numbers...).Bits }
	for _, w := range widths {
		wantScale(t, vals(4, 3, w, 1, 10, -5, 1, 20, -5, 5, 30, 5, 5, 40, 5), list(w, 3, 25, 0), []int{pattern(2, w), pattern(math.Sqrt(125), w), pattern(5, w)})
		wantScale(t, vals(2, 5, w, 0, 2, -8, 6, 7, 2, 0, 8, 6, -7), list(w, 1, 1, 0, 6, 0), list(w, 1, 1, 8, 0, 7))
		wantScale(t, vals(8, 1, w, 2, 4, 4, 4, 5, 5, 7, 9), list(w, 5), list(w, 2))
		wantScale(t, vals(1, 3, w, 4, -5, 0.25), list(w, 4, -5, 0.25), list(w, 0, 0, 0))
		wantScale(t, vals(3, 1, w, 7, 7, 7), list(w, 7), list(w, 0))
		third := map[int]int{32: 0x3EAAAAAB, 64: 0x3FD5555555555555}[w]
		rootTwoByThree := map[int]int{32: 0x3EF15BEF, 64: 0x3FDE2B7DDDFEFA66}[w]
		wantScale(t, vals(3, 1, w, 0, 1, 0), []int{third}, []int{rootTwoByThree})
	}
}

// TestP1906Shapes: one row, one column, as many of each as there can be.
func TestP1906Shapes(t *testing.T) {
	r := rand.New(rand.NewSource(19061))
	for _, w := range widths {
		for _, c := range [][2]int{{1, 1}, {1, 5}, {5, 1}, {2, 2}, {3, 7}, {7, 3}, {64, 64}, {16, 256}, {1024, 4}, {4096, 1}, {1, 4096}, {2, 2048}, {4095, 1}, {1365, 3}} {
			heldScale(t, random(r, c[0], c[1], w, near))
			heldScale(t, random(r, c[0], c[1], w, anyFloat))
		}
	}
}

// TestP1906Row: of one row each mean is the element, of -0 it is 0; no deviation is other than 0.
func TestP1906Row(t *testing.T) {
	r := rand.New(rand.NewSource(19062))
	for _, w := range widths {
		m := random(r, 1, 2000, w, anyFloat)
		mean := slices.Clone(m.Bits)
		for i, b := range mean {
			if b == minusOf(w) {
				mean[i] = 0
			}
		}
		wantScale(t, m, mean, make([]int, 2000))
	}
}

// TestP1906Zeros: noughts of both signs are told as 0.
func TestP1906Zeros(t *testing.T) {
	for _, w := range widths {
		neg := minusOf(w)
		for _, list := range [][]int{{0}, {neg}, {0, 0}, {neg, neg}, {0, neg}, {neg, 0, neg}, {neg, neg, neg, neg}} {
			wantScale(t, matrix(len(list), 1, w, list...), []int{0}, []int{0})
		}
		one := pattern(1, w)
		wantScale(t, matrix(2, 1, w, one, negative(one, w)), []int{0}, []int{one})
		wantScale(t, matrix(2, 1, w, negative(1, w), neg), []int{0}, []int{0}) // half the least one: to the even one, and not -0
		wantScale(t, matrix(3, 1, w, negative(1, w), neg, 0), []int{0}, []int{0})
	}
}

// TestP1906Ends: the greatest floats, whose sum is none, and the least ones, whose squares are none.
func TestP1906Ends(t *testing.T) {
	for _, w := range widths {
		great := greatestOf(w)
		less := negative(great, w)
		for _, c := range []struct {
			list      []int
			mean, dev int
		}{
			{[]int{great, great}, great, 0}, {[]int{less, less, less}, less, 0}, {[]int{great, less}, 0, great}, {[]int{less, great, less, great}, 0, great},
			{[]int{great, great, less, less, great, less}, 0, great},
			{[]int{1, 1}, 1, 0}, {[]int{1, negative(1, w)}, 0, 1}, {[]int{2, negative(2, w)}, 0, 2}, {[]int{2, 4}, 3, 1}, {[]int{4, 4, 8, 8}, 6, 2}, {[]int{negative(4, w), negative(8, w)}, negative(6, w), 2},
			{[]int{great, less, 1}, 0, heldDev(great, less, 1, w)},
		} {
			wantScale(t, matrix(len(c.list), 1, w, c.list...), []int{c.mean}, []int{c.dev})
			heldScale(t, matrix(len(c.list), 1, w, c.list...))
		}
		half := great - map[int]int{32: 1 << 23, 64: 1 << 52}[w]
		wantScale(t, matrix(2, 1, w, great, 0), []int{half}, []int{half})
		all := make([]int, 4096)
		for i := range all {
			all[i] = great
		}
		wantScale(t, matrix(4096, 1, w, all...), []int{great}, []int{0})
		for i := range all {
			all[i] = []int{great, less}[i%2]
		}
		wantScale(t, matrix(4096, 1, w, all...), []int{0}, []int{great})
	}
}

func heldDev(a, b, c, width int) int {
	_, dev := measured([]int{a, b, c}, width)
	return dev
}

// TestP1906Cancel: what a great float hides comes back when that is taken away again.
func TestP1906Cancel(t *testing.T) {
	for _, w := range widths {
		top := math.Ldexp(1, map[int]int{32: 120, 64: 1000}[w])
		for _, c := range []struct {
			list []float64
			mean float64
		}{
			{[]float64{top, 3, -top}, 1}, {[]float64{3, top, -top}, 1}, {[]float64{top, top, -8, -top, -top, 2}, -1}, {[]float64{top, 0.5, 0.25, -top}, 0.1875}, {[]float64{-top, 4 / top, top, 0}, 1 / top},
		} {
			m := vals(len(c.list), 1, w, c.list...)
			_, dev := measured(m.Bits, w)
			wantScale(t, m, []int{pattern(c.mean, w)}, []int{dev})
		}
		// About a great mean a deviation is 1, though the squares differ by less than a float's last bit.
		far := math.Ldexp(1, map[int]int{32: 22, 64: 51}[w])
		wantScale(t, vals(2, 1, w, far+1, far-1), []int{pattern(far, w)}, []int{pattern(1, w)})
		wantScale(t, vals(4, 1, w, far+3, far-3, far+3, far-3), []int{pattern(far, w)}, []int{pattern(3, w)})
	}
}

// TestP1906MeanBetween: means in the middle between two floats go to the even one, those beside the middle to the nearer one.
func TestP1906MeanBetween(t *testing.T) {
	for _, w := range widths {
		one := pattern(1, w)
		for _, c := range []struct {
			list []int
			mean int
		}{
			{[]int{one, one + 1}, one}, {[]int{one + 1, one + 2}, one + 2}, {[]int{one + 2, one + 3}, one + 2}, {[]int{one, one + 3}, one + 2}, {[]int{one + 1, one + 4}, one + 2},
			{[]int{one, one, one, one + 2}, one}, {[]int{one, one, one + 1, one + 1}, one}, {[]int{one, one + 1, one + 1, one + 1}, one + 1}, {[]int{one, one, one, one + 1}, one}, {[]int{one, one, one + 1}, one}, {[]int{one, one + 1, one + 1}, one + 1},
			{[]int{0, 1}, 0}, {[]int{1, 2}, 2}, {[]int{2, 3}, 2}, {[]int{0, 3}, 2}, {[]int{0, 5}, 2}, {[]int{0, 7}, 4}, {[]int{0, 0, 1}, 0}, {[]int{0, 1, 1}, 1}, {[]int{0, 0, 0, 2}, 0}, {[]int{0, 0, 0, 3}, 1},
			{[]int{greatestOf(w) - 1, greatestOf(w)}, greatestOf(w) - 1}, {[]int{greatestOf(w) - 2, greatestOf(w) - 1}, greatestOf(w) - 1},
		} {
			_, dev := measured(c.list, w)
			wantScale(t, matrix(len(c.list), 1, w, c.list...), []int{c.mean}, []int{dev})
			var other []int
			for _, b := range c.list {
				other = append(other, negative(b, w))
			}
			mean := negative(c.mean, w)
			if c.mean == 0 {
				mean = 0
			}
			wantScale(t, matrix(len(c.list), 1, w, other...), []int{mean}, []int{dev})
		}
		// A hair beside the middle: the least float, far behind all that floats of that size keep.
		two := pattern(2, w)
		for hair, mean := range map[int]int{0: one, 1: one + 1, negative(1, w): one} {
			list := []int{two, two + 1, 0, hair}
			_, dev := measured(list, w)
			wantScale(t, matrix(4, 1, w, list...), []int{mean}, []int{dev})
		}
	}
}

// TestP1906RootBetween: deviations in the middle between two floats, and beside it. Of two numbers it is half of what they differ.
func TestP1906RootBetween(t *testing.T) {
	for _, w := range widths {
		top := math.Ldexp(1, map[int]int{32: 24, 64: 53}[w]) // 2^53: above it the floats are 2 apart, half of it 1
		half := pattern(top/2, w)
		one := pattern(-1, w)
		for _, c := range []struct {
			low int
			dev int
		}{
			{one, half}, {one + 1, half + 1}, {one - 1, half}, // a half, a little more, a little less
			{pattern(-3, w), half + 2}, {pattern(-3, w) + 1, half + 2}, {pattern(-3, w) - 1, half + 1},
			{pattern(-5, w), half + 2}, {pattern(-5, w) + 1, half + 3}, {pattern(-5, w) - 1, half + 2}, {pattern(-7, w), half + 4},
			{pattern(-2, w), half + 1}, {0, half}, {negative(1, w), half},
		} {
			m := matrix(2, 1, w, pattern(top, w), c.low)
			mean, _ := measured(m.Bits, w)
			wantScale(t, m, []int{mean}, []int{c.dev})
		}
		for _, c := range [][3]int{{0, 1, 0}, {0, 3, 2}, {0, 5, 2}, {0, 7, 4}, {0, 2, 1}, {1, 4, 2}, {3, 10, 4}, {1, 10, 4}} {
			mean, _ := measured(c[:2], w)
			wantScale(t, matrix(2, 1, w, c[0], c[1]), []int{mean}, []int{c[2]})
			mean, _ = measured([]int{c[0], c[1], c[1], c[0]}, w)
			wantScale(t, matrix(4, 1, w, c[0], c[1], c[1], c[0]), []int{mean}, []int{c[2]})
		}
	}
}

// plain is Scale in floats, one operation behind the other, each of which is rounded.
func plain(column []int, width int) (mean, dev int) {
	float := func(f float64) float64 { return value(pattern(f, width), width) }
	sum, squares, n := 0.0, 0.0, float64(len(column))
	for _, b := range column {
		sum = float(sum + value(b, width))
	}
	for _, b := range column {
		d := float(value(b, width) - float(sum/n))
		squares = float(squares + float(d*d))
	}
	return pattern(sum/n, width), pattern(math.Sqrt(float(squares/n)), width)
}

// TestP1906All: many matrices of all kinds of floats; among them are many of which floats tell something else.
func TestP1906All(t *testing.T) {
	r := rand.New(rand.NewSource(1906))
	for _, w := range widths {
		means, devs := 0, 0
		for i := range 3000 {
			float := []func(*rand.Rand, int) int{near, anyFloat}[i%2]
			m := random(r, 1+r.Intn(12), 1+r.Intn(3), w, float)
			mean, dev := heldScale(t, m)
			first := make([]int, m.Rows)
			for j := range first {
				first[j] = m.Bits[j*m.Cols]
			}
			a, b := plain(first, w)
			if a != mean.Bits[0] {
				means++
			}
			if b != dev.Bits[0] {
				devs++
			}
		}
		if means < 100 || devs < 200 {
			t.Errorf("width %d: only %d means and %d deviations tell one rounding from many", w, means, devs)
		}
	}
}

// TestP1908Rows: rows in another order turn no bit of Scale's; columns in another order, or with others beside them, none of theirs.
func TestP1908Rows(t *testing.T) {
	r := rand.New(rand.NewSource(1908))
	for i := range 300 {
		w := widths[i%2]
		m := random(r, 2+r.Intn(20), 1+r.Intn(5), w, anyFloat)
		mean, dev, _ := data.Scale(m)
		for range 5 {
			turned, order := copied(m), r.Perm(m.Rows)
			for to, from := range order {
				copy(turned.Bits[to*m.Cols:(to+1)*m.Cols], m.Bits[from*m.Cols:])
			}
			wantScale(t, turned, mean.Bits, dev.Bits)
		}
		c := r.Intn(m.Cols)
		single := matrix(m.Rows, 1, w)
		for row := range m.Rows {
			single.Bits = append(single.Bits, m.Bits[row*m.Cols+c])
		}
		wantScale(t, single, mean.Bits[c:c+1], dev.Bits[c:c+1])
	}
}
