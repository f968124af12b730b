package data_test

import (
	"math"
	"math/big"
	"math/rand"
	"testing"

	"pupil/api"
)

// refuseScaled wants an error ahead of all reckoning: the place is 0.
func refuseScaled(t *testing.T, m, mean, dev api.Matrix, e api.Errno) {
	t.Helper()
	wantScaled(t, m, mean, dev, api.Matrix{}, 0, e)
}

// TestP1907Form: m's error comes first, then the mean's, then the deviation's; all ahead of unlike widths and shapes.
func TestP1907Form(t *testing.T) {
	all := misshapes()
	for _, w := range widths {
		m, line := numbered(3, 2, w, 1), numbered(1, 2, w, 1)
		unlike, wrong := numbered(1, 2, 96-w, 1), numbered(2, 3, w, 1)
		for i, bad := range all {
			for _, other := range []api.Matrix{line, unlike, wrong, all[(i+7)%len(all)].m, matrix(1, 1, w, infinityOf(w))} {
				refuseScaled(t, bad.m, other, line, bad.e)
				refuseScaled(t, bad.m, line, other, bad.e)
				refuseScaled(t, bad.m, other, other, bad.e)
				refuseScaled(t, m, bad.m, other, bad.e)
			}
			for _, other := range []api.Matrix{line, unlike, wrong} {
				refuseScaled(t, other, bad.m, line, bad.e)
				refuseScaled(t, m, other, bad.m, bad.e)
				refuseScaled(t, other, line, bad.m, bad.e)
			}
		}
	}
}

// TestP1907Finite: what is not finite in m, then in the mean, then in the deviation; the place beside it is 0, wherever it stands.
func TestP1907Finite(t *testing.T) {
	for _, w := range widths {
		m, line := numbered(3, 2, w, 1), numbered(1, 2, w, 1)
		unlike, wrong := numbered(1, 2, 96-w, 1), numbered(2, 3, w, 1)
		for b, e := range notFinite(w) {
			for i := range 6 {
				bad := with(m, i, b)
				refuseScaled(t, bad, line, line, e)
				refuseScaled(t, bad, unlike, line, e)
				refuseScaled(t, bad, wrong, line, e)
				for c := range notFinite(w) {
					refuseScaled(t, bad, with(line, 1, c), with(line, 0, c), e)
				}
			}
			for i := range 2 {
				bad := with(line, i, b)
				for _, other := range []api.Matrix{line, unlike, wrong} {
					refuseScaled(t, m, bad, other, e)
					refuseScaled(t, m, other, bad, e)
				}
				for c := range notFinite(w) {
					refuseScaled(t, m, bad, with(line, 1, c), e)
				}
			}
		}
	}
}

// TestP1907Unlike: widths come ahead of shapes, shapes ahead of what can't be told.
func TestP1907Unlike(t *testing.T) {
	for _, w := range widths {
		v := 96 - w
		m, line := numbered(3, 2, w, 1), numbered(1, 2, w, 1)
		other := numbered(1, 2, v, 1)
		refuseScaled(t, m, other, line, api.ErrWidth)
		refuseScaled(t, m, line, other, api.ErrWidth)
		refuseScaled(t, m, other, other, api.ErrWidth)
		far := vals(3, 2, w, 1, 2, 3, 4, 5, 6)
		far.Bits[0] = greatestOf(w)
		least := matrix(1, 2, w, 1, 1)
		for _, s := range [][2]int{{2, 2}, {1, 1}, {1, 3}, {3, 2}, {2, 1}, {3, 1}, {1, 6}, {6, 1}, {1, 4}} {
			wrong := numbered(s[0], s[1], w, 1)
			refuseScaled(t, m, wrong, line, api.ErrShape)
			refuseScaled(t, m, line, wrong, api.ErrShape)
			refuseScaled(t, m, wrong, wrong, api.ErrShape)
			refuseScaled(t, far, wrong, least, api.ErrShape)
			refuseScaled(t, m, wrong, other, api.ErrWidth)
			refuseScaled(t, m, other, wrong, api.ErrWidth)
			refuseScaled(t, m, numbered(s[0], s[1], v, 1), line, api.ErrWidth)
			refuseScaled(t, m, line, numbered(s[0], s[1], v, 1), api.ErrWidth)
		}
		refuseScaled(t, numbered(1, 1, w, 1), numbered(2, 1, w, 1), numbered(1, 1, w, 1), api.ErrShape)
		refuseScaled(t, numbered(1, 1, w, 1), numbered(1, 1, w, 1), numbered(2, 1, w, 1), api.ErrShape)
	}
}

// TestP1907Hand: small numbers; each column by its own mean and deviation.
func TestP1907Hand(t *testing.T) {
	for _, w := range widths {
		m := vals(3, 2, w, 1, 10, 2, 30, 3, 20)
		wantScaled(t, m, vals(1, 2, w, 2, 20), vals(1, 2, w, 0.5, 5), vals(3, 2, w, -2, -2, 0, 2, 2, 0), 0, api.OK)
		wantScaled(t, m, vals(1, 2, w, 2, 20), vals(1, 2, w, 0, 5), vals(3, 2, w, -1, -2, 0, 2, 1, 0), 0, api.OK)
		wantScaled(t, m, vals(1, 2, w, 2, 20), matrix(1, 2, w, pattern(1, w), minusOf(w)), vals(3, 2, w, -1, -10, 0, 10, 1, 0), 0, api.OK)
		neg := math.Copysign(0, -1)
		wantScaled(t, m, vals(1, 2, w, 2, 20), vals(1, 2, w, -0.5, -5), vals(3, 2, w, 2, 2, neg, -2, -2, neg), 0, api.OK)
		wantScaled(t, m, vals(1, 2, w, 0, neg), vals(1, 2, w, 0, neg), m, 0, api.OK)
		wantScaled(t, vals(1, 1, w, 7), vals(1, 1, w, 3), vals(1, 1, w, 8), vals(1, 1, w, 0.5), 0, api.OK)
	}
}

// TestP1907Zeros: noughts of both signs keep the signs that single operations give them.
func TestP1907Zeros(t *testing.T) {
	for _, w := range widths {
		neg, one := minusOf(w), pattern(1, w)
		for _, c := range []struct{ x, mean, dev, want int }{
			{0, 0, 0, 0}, {neg, 0, 0, neg}, {0, neg, 0, 0}, {neg, neg, 0, 0},
			{0, 0, neg, 0}, {neg, 0, neg, neg}, {0, neg, neg, 0}, {neg, neg, neg, 0},
			{0, 0, one, 0}, {neg, 0, one, neg}, {0, 0, negative(one, w), neg}, {neg, 0, negative(one, w), 0},
			{one, one, one, 0}, {one, one, negative(one, w), neg}, {one, one, neg, 0},
			{1, 0, greatestOf(w), 0}, {negative(1, w), 0, greatestOf(w), neg}, {1, 0, pattern(2, w), 0}, {3, 0, pattern(2, w), 2}, {negative(1, w), 0, pattern(4, w), neg},
		} {
			wantScaled(t, matrix(1, 1, w, c.x), matrix(1, 1, w, c.mean), matrix(1, 1, w, c.dev), matrix(1, 1, w, c.want), 0, api.OK)
			heldScaled(t, matrix(1, 1, w, c.x), matrix(1, 1, w, c.mean), matrix(1, 1, w, c.dev))
		}
	}
}

// TestP1907Infinite: the first element that is not finite, with its place, be it by the difference or by the quotient.
func TestP1907Infinite(t *testing.T) {
	for _, w := range widths {
		great, one := greatestOf(w), pattern(1, w)
		less := negative(great, w)
		refuse := func(m, mean, dev api.Matrix, at int) {
			t.Helper()
			wantScaled(t, m, mean, dev, api.Matrix{}, at, api.ErrInf)
		}
		// The difference is beyond all floats, though its quotient would be 2 again.
		refuse(matrix(1, 1, w, great), matrix(1, 1, w, less), matrix(1, 1, w, great), 0)
		refuse(matrix(1, 1, w, great), matrix(1, 1, w, less), matrix(1, 1, w, 0), 0)
		refuse(matrix(1, 1, w, less), matrix(1, 1, w, great), matrix(1, 1, w, minusOf(w)), 0)
		refuse(matrix(1, 1, w, one), matrix(1, 1, w, 0), matrix(1, 1, w, 1), 0)
		refuse(matrix(1, 1, w, great), matrix(1, 1, w, 0), matrix(1, 1, w, pattern(-0.5, w)), 0)
		wantScaled(t, matrix(1, 1, w, great), matrix(1, 1, w, 0), matrix(1, 1, w, one), matrix(1, 1, w, great), 0, api.OK)
		wantScaled(t, matrix(1, 1, w, 1), matrix(1, 1, w, 0), matrix(1, 1, w, 1), matrix(1, 1, w, one), 0, api.OK)
		m, mean, dev := numbered(4, 3, w, 1), matrix(1, 3, w, 0, 0, 0), matrix(1, 3, w, pattern(0.5, w), pattern(0.5, w), pattern(0.5, w))
		for i := range 12 {
			refuse(with(m, i, great), mean, dev, i)
			for j := range i {
				refuse(with(with(m, i, less), j, great), mean, dev, j)
			}
		}
		for c := range 3 {
			refuse(m, mean, with(dev, c, 1), c)
			refuse(with(m, c, 0), mean, with(dev, c, 1), 3+c)
		}
		all := matrix(64, 64, w, make([]int, 4096)...)
		line := matrix(1, 64, w, make([]int, 64)...)
		for i := range line.Bits {
			line.Bits[i] = pattern(0.25, w)
		}
		refuse(with(all, 4095, less), matrix(1, 64, w, make([]int, 64)...), line, 4095)
	}
}

// TestP1907All: all kinds of floats, bit by bit; among them are many that one rounding of the exact quotient would tell otherwise.
func TestP1907All(t *testing.T) {
	r := rand.New(rand.NewSource(1907))
	for _, w := range widths {
		good, bad, twice := 0, 0, 0
		for i := range 4000 {
			float := []func(*rand.Rand, int) int{near, anyFloat}[i%2]
			rows, cols := 1+r.Intn(6), 1+r.Intn(4)
			m, mean, dev := random(r, rows, cols, w, float), random(r, 1, cols, w, float), random(r, 1, cols, w, float)
			made, _, e := heldScaled(t, m, mean, dev)
			if e != api.OK {
				bad++
				continue
			}
			good++
			for j, b := range made.Bits {
				exact := new(big.Float).SetPrec(5000).Sub(large(m.Bits[j], w), large(mean.Bits[j%cols], w))
				if d := large(dev.Bits[j%cols], w); d.Sign() != 0 && signed(exact.Quo(exact, d), w) != b {
					twice++
				}
			}
		}
		if good < 1000 || bad < 100 || twice < 100 {
			t.Errorf("width %d: %d, %d, %d", w, good, bad, twice)
		}
	}
}

// TestP1907Shapes: one row, one column, as many of each as there can be.
func TestP1907Shapes(t *testing.T) {
	r := rand.New(rand.NewSource(19071))
	for _, w := range widths {
		for _, c := range [][2]int{{1, 1}, {1, 4096}, {4096, 1}, {64, 64}, {2, 2048}, {1365, 3}} {
			m := random(r, c[0], c[1], w, near)
			mean, dev := measuredAll(m)
			heldScaled(t, m, mean, dev)
		}
	}
}
