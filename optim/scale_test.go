package optim_test

import (
	"math"
	"math/big"
	"math/rand"
	"slices"
	"testing"

	"pupil/api"
	"pupil/optim"
)

// lengthOf is n: all floats, and the middles between them, are whole numbers of 2^-1075, so that a half behind a root that is cut there stands for all that is behind it.
func lengthOf(gs []api.Matrix) int {
	squares := new(big.Int)
	for _, g := range gs {
		for _, b := range g.Bits {
			x, _ := new(big.Float).SetMantExp(large(value(b, g.Width)), 1075).Int(nil)
			squares.Add(squares, x.Mul(x, x))
		}
	}
	root := new(big.Int).Sqrt(squares)
	twice := new(big.Int).Lsh(root, 1)
	if root.Mul(root, root).Cmp(squares) != 0 {
		twice.Add(twice, big.NewInt(1))
	}
	n := new(big.Float).SetPrec(5000).SetInt(twice)
	return nearest(n.SetMantExp(n, -1076), 64)
}

// scaled is Scale by the chapter's words.
func scaled(norm int, gs []api.Matrix) ([]api.Matrix, api.Errno) {
	if x := value(norm, 64); !finite(x) || x < 0 {
		return nil, api.ErrRule
	}
	for _, g := range gs {
		if e := isFinite(g); e != api.OK {
			return nil, e
		}
	}
	made := cloned(gs)
	if value(norm, 64) == 0 {
		return made, api.OK
	}
	n := lengthOf(gs)
	if n == api.Inf {
		return nil, api.ErrInf
	}
	if value(n, 64) <= value(norm, 64) {
		return made, api.OK
	}
	f := large(value(single('/', norm, n, 64), 64))
	for _, g := range made {
		for i, b := range g.Bits {
			x := large(value(b, g.Width))
			if g.Bits[i] = nearest(x.Mul(x, f), g.Width); value(g.Bits[i], g.Width) == 0 {
				g.Bits[i] = 0
			}
		}
	}
	return made, api.OK
}

// heldScale holds Scale against the reference, and tells its error.
func heldScale(t *testing.T, norm int, gs []api.Matrix) api.Errno {
	t.Helper()
	got, e := optim.Scale(norm, gs)
	want, f := scaled(norm, gs)
	if !allSame(got, want) || e != f {
		t.Errorf("Scale(%x, %x):\n%x, %v\nwant\n%x, %v", norm, gs, got, e, want, f)
	}
	return e
}

// wantScale wants Scale to tell matrices, or an error alone.
func wantScale(t *testing.T, norm int, gs, want []api.Matrix, e api.Errno) {
	t.Helper()
	if got, f := optim.Scale(norm, gs); !allSame(got, want) || f != e {
		t.Errorf("Scale(%x, %x): %x, %v; want %x, %v", norm, gs, got, f, want, e)
	}
}

func list(l ...api.Matrix) []api.Matrix { return l }

// TestP1703Norm: norms that are none, ahead of all that is wrong with a matrix.
func TestP1703Norm(t *testing.T) {
	given := [][]api.Matrix{nil, {}, list(vals(64, 6, 8)), list(vals(32, 1e30), vals(64, 1e300)), list(api.Matrix{}), list(mat(1, 1, 64, api.NaN)), list(mat(1, 2, 64, most, most))}
	for _, norm := range []int{api.NaN, api.NaN | minus, api.Inf + 1, -1, math.MaxInt, api.Inf, api.Inf | minus, 1 | minus, bitsOf(-1), most | minus, minus + 1} {
		for _, gs := range given {
			wantScale(t, norm, gs, nil, api.ErrRule)
		}
	}
	// Without a norm nothing is reckoned: the sum of these squares has no float.
	for _, norm := range []int{0, minus} {
		for _, gs := range [][]api.Matrix{list(mat(1, 2, 64, most, most)), list(mat(2, 2, 64, minus, 1|minus, 0, 5)), list(mat(1, 3, 32, minus32, 1|minus32, most32), vals(64, -3)), nil, {}} {
			wantScale(t, norm, gs, gs, api.OK)
		}
		wantScale(t, norm, list(vals(64, 1), mat(1, 1, 64, api.NaN)), nil, api.ErrNaN)
		wantScale(t, norm, list(vals(64, 1), mat(1, 2, 64, 0)), nil, api.ErrShape)
	}
}

// TestP1703None: no matrices are none, whatever the norm.
func TestP1703None(t *testing.T) {
	for _, norm := range []int{0, minus, 1, bitsOf(1), most} {
		wantScale(t, norm, nil, nil, api.OK)
		wantScale(t, norm, []api.Matrix{}, nil, api.OK)
	}
	// Noughts are not above any norm, and stay what they are.
	for _, norm := range []int{0, 1, bitsOf(1), most} {
		gs := list(mat(1, 2, 64, 0, minus), mat(2, 1, 32, minus32, 0))
		wantScale(t, norm, gs, gs, api.OK)
	}
}

// TestP1703First: the error of the first matrix that has one.
func TestP1703First(t *testing.T) {
	for _, width := range widths {
		for _, x := range wrongMatrices(width) {
			for _, norm := range []int{0, minus, bitsOf(1), most} {
				for _, n := range []int{1, 3, 64} {
					for at := range n {
						gs := slices.Repeat(list(vals(64, 3, 4)), n)
						if at%2 == 0 {
							gs = slices.Repeat(list(mat(1, 2, 64, most, most)), n)
						}
						gs[at] = x.m
						wantScale(t, norm, gs, nil, x.e)
						for i := at + 1; i < n; i += 7 {
							gs[i] = wrongMatrices(width)[i%20].m
						}
						wantScale(t, norm, gs, nil, x.e)
					}
				}
			}
		}
	}
}

// TestP1703Exact: the sum of the squares is exact where floats overflow, vanish or lose what is small.
func TestP1703Exact(t *testing.T) {
	for _, k := range []int{1000, 1021, 600, 0, -600, -1000, -1074} {
		three, four, five := math.Ldexp(3, k), math.Ldexp(4, k), math.Ldexp(5, k)
		gs := list(vals(64, three), vals(64, -four))
		wantScale(t, bitsOf(five), gs, gs, api.OK)
		if k > -1074 {
			wantScale(t, bitsOf(five/2), gs, list(vals(64, three/2), vals(64, -four/2)), api.OK)
		}
	}
	// Many small squares beside a great one, each of which a float's sum would lose.
	for _, c := range []struct {
		great, small float64
		count        int
	}{{1, 0x1p-27, 4095}, {1, 0x1p-27, 8}, {1, 0x1p-26, 4000}, {0x1p1000, 0x1p973, 4095}, {0x1p-1000, 0x1p-1027, 4095}, {0x1p30, 8, 4095}} {
		small := slices.Repeat([]float64{c.small}, c.count)
		for _, gs := range [][]api.Matrix{
			list(vals(64, append([]float64{c.great}, small...)...)),
			list(vals(64, append(slices.Clone(small), c.great)...)),
			list(vals(64, c.great), vals(64, small...)),
			list(vals(64, small...), vals(64, small...), vals(64, c.great), vals(64, small...)),
		} {
			n := lengthOf(gs)
			if n == bitsOf(c.great) && c.count > 8 {
				t.Errorf("%v and many of %v: %x is not above it", c.great, c.small, n)
			}
			wantScale(t, n, gs, gs, api.OK)
			heldScale(t, n-1, gs)
			heldScale(t, bitsOf(c.great), gs)
			heldScale(t, bitsOf(c.great/3), gs)
		}
	}
	// A square that is far from all others decides where they are half way between two floats.
	half := vals(64, 1, 0x1p-26) // 1 + 2^-52: its root is below the middle between 1 and the next float
	wantScale(t, one, list(half), list(half), api.OK)
	// (1 + 2^-53)^2 is 1 + 2^-52 + 2^-106: just the middle, to the even one; what is beyond it goes up.
	middle := []float64{1, 0x1p-26, 0x1p-53}
	wantScale(t, one, list(vals(64, middle...)), list(vals(64, middle...)), api.OK)
	beyond := list(vals(64, middle...), mat(1, 1, 64, 1))
	wantScale(t, one+1, beyond, beyond, api.OK)
	if got, _ := optim.Scale(one, beyond); len(got) != 2 || got[0].Bits[0] != one-2 {
		t.Errorf("just beyond a middle: %x", got)
	}
}

// TestP1703Infinite: a length beyond all floats is refused, whatever the norm; the greatest one is not.
func TestP1703Infinite(t *testing.T) {
	great := math.MaxFloat64
	for _, gs := range [][]api.Matrix{list(vals(64, great, great)), list(vals(64, great), vals(64, -great)), list(vals(64, great, 0x1p998)), list(vals(64, 0x1p998), vals(32, 1), vals(64, -great)), list(filled(2, 2048, 64, bitsOf(0x1p1018)))} {
		for _, norm := range []int{1, bitsOf(1), bitsOf(5), most, most - 1} {
			wantScale(t, norm, gs, nil, api.ErrInf)
		}
		wantScale(t, 0, gs, gs, api.OK)
	}
	for _, gs := range [][]api.Matrix{list(vals(64, great)), list(vals(64, -great, 0x1p997)), list(vals(64, 1), vals(64, 0x1p997), vals(64, great)), list(filled(2, 2047, 64, bitsOf(0x1p1018)))} {
		wantScale(t, most, gs, gs, api.OK)
		for _, norm := range []int{1, 3, bitsOf(1), bitsOf(5), most - 1} {
			if heldScale(t, norm, gs) != api.OK {
				t.Errorf("%x is refused", gs)
			}
		}
	}
}

// TestP1703Norms: a length just at the norm, just above it and just below it.
func TestP1703Norms(t *testing.T) {
	r := rand.New(rand.NewSource(3))
	lists := [][]api.Matrix{list(vals(64, 6, 8)), list(vals(64, 1, 1)), list(vals(32, 0.1)), list(vals(64, 0.1), vals(32, -0.3, 7), vals(64, 1e-3)), list(mat(1, 1, 64, 3)), list(mat(1, 2, 64, 3, 4)), list(mat(1, 1, 32, 1))}
	for range 300 {
		var gs []api.Matrix
		for range 1 + r.Intn(4) {
			gs = append(gs, random(r, 1+r.Intn(3), 1+r.Intn(3), widths[r.Intn(2)], common))
		}
		lists = append(lists, gs)
	}
	// At the norm a -0 stays what it is; above it, it is 0.
	signs := list(mat(1, 3, 64, bitsOf(3), minus, bitsOf(-4)), mat(1, 2, 32, minus32, 0))
	wantScale(t, bitsOf(5), signs, signs, api.OK)
	wantScale(t, bitsOf(2.5), signs, list(mat(1, 3, 64, bitsOf(1.5), 0, bitsOf(-2)), mat(1, 2, 32, 0, 0)), api.OK)
	for _, gs := range lists {
		n := lengthOf(gs)
		for d := range 3 {
			wantScale(t, n+d, gs, gs, api.OK)
			below, e := optim.Scale(n-1-d, gs)
			if e != api.OK || heldScale(t, n-1-d, gs) != api.OK {
				t.Errorf("%x: %v", gs, e)
			}
			if n-1-d > 0 && !slices.ContainsFunc(gs, func(g api.Matrix) bool { return g.Width == 32 }) && allSame(below, gs) {
				t.Errorf("%x is above %x, and stays", gs, n-1-d)
			}
		}
	}
}

// TestP1703Elements: each element is rounded once to its own width; what rounds to 0 is 0.
func TestP1703Elements(t *testing.T) {
	r := rand.New(rand.NewSource(4))
	for i := range 4000 {
		var gs []api.Matrix
		for range 1 + r.Intn(4) {
			one := common
			if i%2 == 0 {
				one = anyFinite
			}
			gs = append(gs, random(r, 1+r.Intn(3), 1+r.Intn(3), widths[r.Intn(2)], one))
		}
		heldScale(t, anyFinite(r, 64)&^minus, gs)
		heldScale(t, pattern(r.Float64(), 64), gs)
	}
	for _, norm := range []int{1, 2, 3, bitsOf(0x1p-1022), bitsOf(1e-300), bitsOf(1e-45), bitsOf(1)} {
		heldScale(t, norm, list(random(r, 3, 3, 64, anyFinite), random(r, 3, 3, 32, anyFinite), vals(64, 1e300)))
		heldScale(t, norm, list(mat(1, 5, 64, edges(64)[:5]...), mat(1, 26, 32, edges(32)...)))
	}
	gs := list(mat(1, 4, 64, bitsOf(2), minus, 1|minus, 1), mat(1, 4, 32, minus32, 0, 1, 1|minus32))
	wantScale(t, bitsOf(0.5), gs, list(mat(1, 4, 64, bitsOf(0.5), 0, 0, 0), mat(1, 4, 32, 0, 0, 0, 0)), api.OK)
	// f is 0.
	wantScale(t, 1, list(vals(64, 0x1p1000, -3)), list(mat(1, 2, 64, 0, 0)), api.OK)
}

// TestP1703Once: products that a rounding to width 64 ahead would bring to the middle between two binary32.
func TestP1703Once(t *testing.T) {
	twice := 0
	for i := range 4000 {
		x, middle := float64(2*i+3), 1+float64(2*i+1)*0x1p-24
		f := middle / x
		// The great one alone makes n, which is 2^100: f is the norm's own bits.
		gs := list(vals(64, 0x1p100), vals(32, x, -x))
		heldScale(t, bitsOf(f*0x1p100), gs)
		if float64(float32(x*f)) != value(nearest(large(0).Mul(large(x), large(f)), 32), 32) {
			twice++
		}
	}
	if twice < 100 {
		t.Errorf("%d products are told apart by a second rounding", twice)
	}
}

// TestP1703Many: as many matrices as a net may have, and more; all places count, in any order.
func TestP1703Many(t *testing.T) {
	r := rand.New(rand.NewSource(5))
	for _, n := range []int{64, 65, 1000} {
		var gs []api.Matrix
		for range n {
			gs = append(gs, random(r, 1+r.Intn(3), 1+r.Intn(3), widths[r.Intn(2)], common))
		}
		heldScale(t, bitsOf(1.5), gs)
		got, _ := optim.Scale(bitsOf(1.5), gs)
		turned := slices.Clone(gs)
		slices.Reverse(turned)
		back, _ := optim.Scale(bitsOf(1.5), turned)
		slices.Reverse(back)
		if !allSame(got, back) {
			t.Errorf("%d matrices the other way round: %x, %x", n, got, back)
		}
	}
	full := list(random(r, 64, 64, 64, common), random(r, 64, 64, 32, common))
	heldScale(t, bitsOf(1), full)
}
