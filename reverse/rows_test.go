package reverse_test

import (
	"math"
	"math/rand"
	"slices"
	"testing"

	"pupil/api"
	"pupil/bits"
	"pupil/eval"
	"pupil/kernel"
	"pupil/reverse"
)

var (
	pairOps = []int{api.OpAdd, api.OpSub, api.OpMul, api.OpDiv}
	eachOps = []int{api.OpNeg, api.OpRelu, api.OpAbs, api.OpExp, api.OpLog, api.OpTanh, api.OpSigmoid, api.OpSqrt, api.OpSoftplus}
	manyOps = []int{api.OpSum, api.OpSumRows, api.OpSumCols, api.OpMean, api.OpGreatest, api.OpSoftmax, api.OpLogSoft}
)

// alone is a tape of inputs, and one node that takes them all.
func alone(op, a, b int, in []api.Matrix) api.Tape {
	var t api.Tape
	n := numbers(op, a, b)
	for i, m := range in {
		t.Nodes = append(t.Nodes, input(i, m.Rows, m.Cols, m.Width))
		n.In = append(n.In, i)
	}
	return behind(t, n)
}

// held holds what one operation brings against the table; false: its value is not finite, so there is nothing.
func held(t *testing.T, r *rand.Rand, op, a, b int, in []api.Matrix, seed kind) bool {
	t.Helper()
	made := alone(op, a, b, in)
	values, f := eval.Run(made, in, nil)
	if f != (api.Fault{}) {
		return false
	}
	y := values[len(in)]
	g := seed(r, y.Rows, y.Cols, y.Width)
	want, f := runOf(made, values, len(in), g)
	got, h := reverse.Run(made, values, len(in), g)
	if h != f || !sameAll(got, want) {
		if len(in[0].Bits) > 20 {
			t.Fatalf("operation %d of %d by %d, width %d: %v; want %v", op, in[0].Rows, in[0].Cols, in[0].Width, h, f)
		}
		t.Fatalf("operation %d (%d, %d) of %x from %x: %x %v; want %x %v", op, a, b, in, g, got, h, want, f)
	}
	return true
}

// kind is a way to fill a matrix.
type kind func(r *rand.Rand, rows, cols, width int) api.Matrix

// wild has all finite floats, each as likely.
func wild(r *rand.Rand, rows, cols, width int) api.Matrix {
	m := api.Matrix{Rows: rows, Cols: cols, Width: width}
	for len(m.Bits) < rows*cols {
		if b := int(r.Uint64()) >> (64 - width) & (1<<width - 1); isFinite(b, width) {
			m.Bits = append(m.Bits, b)
		}
	}
	return m
}

// near has floats about 1, of both signs, with all their bits.
func near(r *rand.Rand, rows, cols, width int) api.Matrix {
	m := api.Matrix{Rows: rows, Cols: cols, Width: width}
	for range rows * cols {
		m.Bits = append(m.Bits, mat(1, 1, width, r.NormFloat64()).Bits[0])
	}
	return m
}

// steep has a few bits and powers from far apart, so that sums cancel and come half way between two floats.
func steep(r *rand.Rand, rows, cols, width int) api.Matrix {
	m := api.Matrix{Rows: rows, Cols: cols, Width: width}
	half := []int{12, 24, 25, 26, 53, 54, 55}
	for range rows * cols {
		f := 1 + float64(r.Intn(3))
		if r.Intn(2) == 0 {
			f = math.Ldexp(f, -half[r.Intn(len(half))])
		}
		if r.Intn(2) == 0 {
			f = -f
		}
		m.Bits = append(m.Bits, mat(1, 1, width, f).Bits[0])
	}
	return m
}

// low has floats below the normal ones, noughts of both signs among them.
func low(r *rand.Rand, rows, cols, width int) api.Matrix {
	m := api.Matrix{Rows: rows, Cols: cols, Width: width}
	for range rows * cols {
		b := r.Intn(9)
		if r.Intn(2) == 0 {
			b = bits.Neg(b, width)
		}
		m.Bits = append(m.Bits, b)
	}
	return m
}

var kinds = []kind{wild, near, steep, low, some}

// TestP1201Each: the operations on each element, of elements that they have a value of.
func TestP1201Each(t *testing.T) {
	for _, width := range widths {
		for _, op := range eachOps {
			r := rand.New(rand.NewSource(int64(op)))
			done := 0
			for range 40 {
				for _, x := range kinds {
					for _, g := range kinds {
						if held(t, r, op, 0, 0, list(x(r, 1, 1, width)), g) {
							done++
						}
					}
				}
				held(t, r, op, 0, 0, list(near(r, 2, 3, width)), near)
			}
			if done < 300 {
				t.Errorf("operation %d, width %d: %d are held", op, width, done)
			}
		}
	}
}

// TestP1201Pairs: the operations on two elements, of each kind with each other one.
func TestP1201Pairs(t *testing.T) {
	for _, width := range widths {
		for _, op := range pairOps {
			r := rand.New(rand.NewSource(int64(op)))
			done := 0
			for range 8 {
				for _, x := range kinds {
					for _, u := range kinds {
						for _, g := range kinds {
							if held(t, r, op, 0, 0, list(x(r, 1, 1, width), u(r, 1, 1, width)), g) {
								done++
							}
						}
					}
				}
			}
			if done < 500 {
				t.Errorf("operation %d, width %d: %d are held", op, width, done)
			}
		}
	}
}

// TestP1201Stretched: what is stretched, on either side, is brought from each element that it was stretched to, in one sum.
func TestP1201Stretched(t *testing.T) {
	r := rand.New(rand.NewSource(7))
	for _, width := range widths {
		for _, op := range pairOps {
			for _, s := range [][4]int{{1, 1, 1, 1}, {2, 3, 2, 3}, {1, 2, 2, 1}, {2, 1, 1, 2}, {1, 1, 3, 2}, {3, 2, 1, 1}, {3, 2, 3, 1}, {3, 2, 1, 2}, {3, 1, 3, 2}, {1, 2, 3, 2}, {40, 1, 1, 40}, {1, 500, 1, 1}, {1, 1, 500, 1}} {
				for _, g := range kinds {
					if !held(t, r, op, 0, 0, list(near(r, s[0], s[1], width), near(r, s[2], s[3], width)), g) {
						t.Errorf("operation %d of %v is not held", op, s)
					}
				}
				held(t, r, op, 0, 0, list(steep(r, s[0], s[1], width), steep(r, s[2], s[3], width)), steep)
			}
		}
	}
	row, col := mat(1, 2, 64, 2, 3), mat(2, 1, 64, 5, 7)
	g := mat(2, 2, 64, 1, 10, 100, 1000)
	for op, want := range map[int][]api.Matrix{
		api.OpAdd: list(mat(1, 2, 64, 101, 1010), mat(2, 1, 64, 11, 1100), g),
		api.OpSub: list(mat(1, 2, 64, 101, 1010), mat(2, 1, 64, -11, -1100), g),
		api.OpMul: list(mat(1, 2, 64, 705, 7050), mat(2, 1, 64, 32, 3200), g),
	} {
		made := tapeOf(input(0, 1, 2, 64), input(1, 2, 1, 64), takes(op, 0, 1))
		wantRun(t, "by hand", made, valuesOf(t, made, list(row, col), nil), 2, g, want, api.Fault{})
	}
	made := tapeOf(input(0, 1, 2, 64), input(1, 2, 1, 64), takes(api.OpDiv, 0, 1))
	values := valuesOf(t, made, list(mat(1, 2, 64, 2, 3), mat(2, 1, 64, 4, 0.5)), nil)
	wantRun(t, "by hand", made, values, 2, g, list(mat(1, 2, 64, 200.25, 2002.5), mat(2, 1, 64, -(0.5+7.5)/4, -(400+6000)/0.5), g), api.Fault{})
}

// TestP1201Twice: a node that takes one node at both places brings to it from both.
func TestP1201Twice(t *testing.T) {
	for _, width := range widths {
		r := rand.New(rand.NewSource(8))
		for _, x := range kinds {
			for _, g := range kinds {
				for range 5 {
					in := x(r, 2, 2, width)
					for _, n := range []api.Node{takes(api.OpAdd, 0, 0), takes(api.OpSub, 0, 0), takes(api.OpMul, 0, 0), takes(api.OpDiv, 0, 0), takes(api.OpProduct, 0, 0), takes(api.OpGlueCols, 0, 0, 0), takes(api.OpGlueRows, 0, 0)} {
						made := tapeOf(input(0, 2, 2, width), n)
						values, f := eval.Run(made, list(in), nil)
						if f != (api.Fault{}) {
							continue
						}
						seed := g(r, values[1].Rows, values[1].Cols, width)
						want, f := runOf(made, values, 1, seed)
						wantRun(t, "twice", made, values, 1, seed, want, f)
					}
				}
			}
		}
	}
	three, five := list(mat(1, 1, 64, 3)), mat(1, 1, 64, 5)
	for op, want := range map[int]float64{api.OpAdd: 10, api.OpSub: 0, api.OpMul: 30, api.OpDiv: 0, api.OpProduct: 30} {
		made := tapeOf(input(0, 1, 1, 64), takes(op, 0, 0))
		wantRun(t, "by hand", made, valuesOf(t, made, three, nil), 1, five, list(mat(1, 1, 64, want), five), api.Fault{})
	}
}

// TestP1201Product: rows by columns, in one sum for each element.
func TestP1201Product(t *testing.T) {
	r := rand.New(rand.NewSource(9))
	for _, width := range widths {
		for _, s := range [][3]int{{1, 1, 1}, {1, 3, 1}, {3, 1, 1}, {1, 1, 3}, {3, 1, 2}, {2, 3, 4}, {4, 3, 2}, {1, 5, 4}, {4, 5, 1}, {100, 1, 3}, {3, 1, 100}, {16, 2, 16}} {
			for _, x := range kinds {
				for _, g := range kinds {
					held(t, r, api.OpProduct, 0, 0, list(x(r, s[0], s[1], width), x(r, s[1], s[2], width)), g)
				}
			}
			if !held(t, r, api.OpProduct, 0, 0, list(steep(r, s[0], s[1], width), near(r, s[1], s[2], width)), steep) {
				t.Errorf("a product of %v is not held", s)
			}
		}
	}
	made := tapeOf(input(0, 2, 2, 64), input(1, 2, 3, 64), takes(api.OpProduct, 0, 1))
	values := valuesOf(t, made, list(mat(2, 2, 64, 1, 2, 3, 4), mat(2, 3, 64, 1, 0, 2, 0, 1, 3)), nil)
	g := mat(2, 3, 64, 1, 10, 100, 2, 20, 200)
	wantRun(t, "by hand", made, values, 2, g, list(mat(2, 2, 64, 201, 310, 402, 620), mat(2, 3, 64, 7, 70, 700, 10, 100, 1000), g), api.Fault{})
}

// TestP1201Many: sums, means, the greatest, softmax and its logarithm.
func TestP1201Many(t *testing.T) {
	for _, width := range widths {
		for _, op := range manyOps {
			r := rand.New(rand.NewSource(int64(op)))
			done := 0
			for _, s := range [][2]int{{1, 1}, {1, 2}, {2, 1}, {1, 7}, {7, 1}, {3, 4}, {2, 2}} {
				for _, x := range kinds {
					for _, g := range kinds {
						if held(t, r, op, 0, 0, list(x(r, s[0], s[1], width)), g) {
							done++
						}
					}
				}
			}
			if done < 100 {
				t.Errorf("operation %d, width %d: %d are held", op, width, done)
			}
		}
	}
}

// TestP1201Moves: what only went elsewhere, once, several times or not at all, and what took another width.
func TestP1201Moves(t *testing.T) {
	r := rand.New(rand.NewSource(10))
	for _, width := range widths {
		for _, g := range kinds {
			six, row := list(near(r, 2, 3, width)), list(near(r, 1, 6, width))
			for _, c := range []struct {
				op, a, b int
				in       []api.Matrix
			}{
				{api.OpTurn, 0, 0, six}, {api.OpForm, 6, 1, six}, {api.OpForm, 3, 2, six}, {api.OpForm, 1, 6, six},
				{api.OpCutCols, 1, 3, six}, {api.OpCutCols, 0, 3, six}, {api.OpCutRows, 1, 2, six}, {api.OpCutRows, 0, 1, six},
				{api.OpGlueCols, 0, 0, six}, {api.OpGlueCols, 0, 0, list(six[0], near(r, 2, 1, width), six[0])},
				{api.OpGlueRows, 0, 0, six}, {api.OpGlueRows, 0, 0, list(near(r, 3, 3, width), six[0])},
				{api.OpWindow, 2, 1, row}, {api.OpWindow, 3, 3, row}, {api.OpWindow, 4, 2, row}, {api.OpWindow, 6, 9, row}, {api.OpWindow, 2, 4, row},
			} {
				if !held(t, r, c.op, c.a, c.b, c.in, g) {
					t.Errorf("operation %d is not held", c.op)
				}
			}
			for _, x := range kinds {
				held(t, r, other(width), 0, 0, list(x(r, 2, 3, width)), g)
			}
		}
	}
	made := tapeOf(input(0, 1, 5, 64), numbers(api.OpWindow, 2, 1, 0), numbers(api.OpCutCols, 1, 3, 0), takes(api.OpTurn, 2))
	values := valuesOf(t, made, list(mat(1, 5, 64, 1, 2, 3, 4, 5)), nil)
	none := mat(2, 1, 64, 0, 0)
	g := mat(4, 2, 64, 1, 2, 4, 8, 16, 32, 64, 128)
	wantRun(t, "windows", made, values, 1, g, list(mat(1, 5, 64, 1, 6, 24, 96, 128), g, mat(1, 2, 64, 0, 0), none), api.Fault{})
	g = mat(2, 1, 64, 7, 9)
	wantRun(t, "a cut", made, values, 3, g, list(mat(1, 5, 64, 0, 7, 9, 0, 0), mat(4, 2, 64, make([]float64, 8)...), mat(1, 2, 64, 7, 9), g), api.Fault{})
}

// hand is a tape of one operation on numbers, or on rows of them, a seed, and the adjoints of what is taken.
type hand struct {
	op   int
	in   [][]float64
	seed []float64
	want [][]float64
}

// wantHand holds the adjoints of rows of numbers against what is reckoned by hand.
func wantHand(t *testing.T, width int, c hand) {
	t.Helper()
	var in, want []api.Matrix
	for i := range c.in {
		in, want = append(in, mat(1, len(c.in[i]), width, c.in[i]...)), append(want, mat(1, len(c.in[i]), width, c.want[i]...))
	}
	made := alone(c.op, 0, 0, in)
	values, f := eval.Run(made, in, nil)
	if f != (api.Fault{}) {
		t.Errorf("operation %d of %v: %v", c.op, c.in, f)
		return
	}
	var bad api.Fault
	for i := len(in) - 1; i >= 0 && bad.Err == api.OK; i-- {
		bad = unfinite(want[i], i)
	}
	got, f := reverse.Run(made, values, len(in), mat(1, len(c.seed), values[len(in)].Width, c.seed...))
	if f != bad {
		t.Errorf("operation %d of %v from %v, width %d: %v, want %v", c.op, c.in, c.seed, width, f, bad)
	} else if f.Err == api.OK && !sameAll(got[:len(in)], want) {
		t.Errorf("operation %d of %v from %v, width %d: %x, want %x", c.op, c.in, c.seed, width, got, want)
	}
}

func one(l ...float64) [][]float64 {
	var rows [][]float64
	for _, f := range l {
		rows = append(rows, []float64{f})
	}
	return rows
}

func row(l ...float64) []float64 { return l }

var (
	tiny  = map[int]float64{32: 0x1p-149, 64: 0x1p-1074}
	ulp   = map[int]float64{32: 0x1p-23, 64: 0x1p-52}
	great = map[int]float64{32: math.MaxFloat32, 64: math.MaxFloat64}
)

// TestP1201Once: one rounding of what one place brings; half way to the even one; beyond the greatest one.
func TestP1201Once(t *testing.T) {
	for _, w := range widths {
		e, u, g := tiny[w], ulp[w], great[w]
		for _, c := range []hand{
			{api.OpAdd, one(1, 2), row(1 + u), one(1+u, 1+u)},
			{api.OpSub, one(1, 2), row(1 + u), one(1+u, -1-u)},
			{api.OpMul, one(0.5, 3), row(e), one(3*e, 0)},
			{api.OpMul, one(0.5, 3), row(3 * e), one(9*e, 2*e)},
			{api.OpMul, one(1+u, 1-u/2), row(1 + u), one(1, 1+2*u)}, // (1 + u)(1 - u/2) is 1 + u/2 - u^2/2: below the half way
			{api.OpMul, one(2, 1), row(g), one(g, inf)},
			{api.OpMul, one(1, -2), row(g), one(-inf, g)},
			{api.OpDiv, one(1, 3), row(1), one(quot(1, 3, w), -float64(quot(quot(1, 3, w), 3, w)))},
			{api.OpDiv, one(6, 2), row(3 * e), one(2*e, -4*e)}, // 1.5 and 4.5 of the least one
			{api.OpDiv, one(6, 2), row(e), one(0, -2*e)},       // 0.5 and 1.5 of it
			{api.OpDiv, one(4, -2), row(g), one(-g/2, -g)},
			{api.OpDiv, one(1, 0.5), row(g), one(inf, -inf)},
			{api.OpNeg, one(1), row(1), one(-1)},
			{api.OpExp, one(0), row(e), one(e)},
			{api.OpLog, one(2), row(e), one(0)},
			{api.OpLog, one(2), row(3 * e), one(2 * e)},
			{api.OpLog, one(3), row(1), one(quot(1, 3, w))},
			{api.OpLog, one(e), row(e), one(1)},
			{api.OpLog, one(0.5), row(-g), one(-inf)},
			{api.OpTanh, one(0), row(1 + u), one(1 + u)},
			{api.OpTanh, one(40), row(g), one(0)}, // y is 1
			{api.OpSigmoid, one(0), row(2 * e), one(0)},
			{api.OpSigmoid, one(0), row(6 * e), one(2 * e)},
			{api.OpSigmoid, one(800), row(g), one(0)},
			{api.OpSoftplus, one(0), row(e), one(0)},
			{api.OpSoftplus, one(0), row(3 * e), one(2 * e)},
			{api.OpSoftplus, one(800), row(g), one(g)},
			{api.OpSqrt, one(1), row(e), one(0)},
			{api.OpSqrt, one(1), row(3 * e), one(2 * e)},
			{api.OpSqrt, one(9), row(1), one(quot(1, 6, w))},
			{api.OpSqrt, one(0x1p-40), row(g), one(inf)},
			{api.OpSqrt, one(0.0625), row(g / 4), one(g / 2)},
			{api.OpProduct, one(0.5, 3), row(3 * e), one(9*e, 2*e)},
			{api.OpSum, [][]float64{{1, 2, 3}}, row(1 + u), [][]float64{{1 + u, 1 + u, 1 + u}}},
			{api.OpSumRows, [][]float64{{1, 2, 3}}, row(1 + u), [][]float64{{1 + u, 1 + u, 1 + u}}},
			{api.OpSumCols, [][]float64{{1, 2, 3}}, row(1, u, -g), [][]float64{{1, u, -g}}},
			{api.OpMean, [][]float64{{1, 2, 3}}, row(4), [][]float64{{quot(4, 3, w), quot(4, 3, w), quot(4, 3, w)}}},
			{api.OpMean, [][]float64{{1, 2}}, row(e), [][]float64{{0, 0}}},
			{api.OpMean, [][]float64{{1, 2}}, row(-3 * e), [][]float64{{-2 * e, -2 * e}}},
			{api.OpSoftmax, [][]float64{{0, 0}}, row(e, -e), [][]float64{{0, 0}}}, // half of the least one
			{api.OpSoftmax, [][]float64{{0, 0}}, row(3*e, -3*e), [][]float64{{2 * e, -2 * e}}},
			{api.OpSoftmax, [][]float64{{0, 0}}, row(g, -g), [][]float64{{g / 2, -g / 2}}},
			{api.OpSoftmax, [][]float64{{0, 0}}, row(1+u, 1), [][]float64{{u / 4, -u / 4}}},
			{api.OpSoftmax, [][]float64{{900, 0}}, row(g, -g), [][]float64{{0, 0}}},
			{api.OpLogSoft, [][]float64{{900, 0}}, row(1, 2), [][]float64{{-2, 2}}},
			{api.OpLogSoft, [][]float64{{900, 0}}, row(g, g), [][]float64{{-g, g}}},
			{api.OpLogSoft, [][]float64{{900, 0}}, row(1, u/2), [][]float64{{-u / 2, u / 2}}},
		} {
			wantHand(t, w, c)
		}
	}
	for _, c := range []hand{
		{api.OpNarrow, one(0), row(0x1p-149), one(0x1p-149)},
		{api.OpNarrow, one(0), row(-1 - 0x1p-23), one(-1 - 0x1p-23)},
		{api.OpNarrow, one(0), row(math.MaxFloat32), one(math.MaxFloat32)},
	} {
		wantHand(t, 64, c)
	}
	for _, c := range []hand{
		{api.OpWide, one(0), row(1 + 0x1p-24), one(1)},
		{api.OpWide, one(0), row(1 + 0x1p-24 + 0x1p-52), one(1 + 0x1p-23)},
		{api.OpWide, one(0), row(1 + 3*0x1p-24), one(1 + 0x1p-22)},
		{api.OpWide, one(0), row(-0x1p-150), one(0)},
		{api.OpWide, one(0), row(-0x1p-150 * (1 + 0x1p-52)), one(-0x1p-149)},
		{api.OpWide, one(0), row(math.MaxFloat32 + 0x1p103), one(inf)},
		{api.OpWide, one(0), row(0x1p128 - 0x1p103 - 0x1p75), one(math.MaxFloat32)},
	} {
		wantHand(t, 32, c)
	}
}

// quot tells a quotient of two floats, rounded once.
func quot(a, b float64, width int) float64 {
	if width == 32 {
		return float64(float32(a) / float32(b))
	}
	return a / b
}

// TestP1201Kinks: OpRelu and OpAbs above, below and at noughts; the greatest of a row, where several are as great.
func TestP1201Kinks(t *testing.T) {
	for _, width := range widths {
		low := tiny[width]
		x := [][]float64{{3, -3, 0, neg0, low, -low}}
		seed := row(7, 8, 9, 10, -11, -12)
		wantHand(t, width, hand{api.OpRelu, x, seed, [][]float64{{7, 0, 0, 0, -11, 0}}})
		wantHand(t, width, hand{api.OpAbs, x, seed, [][]float64{{7, -8, 0, 0, -11, 12}}})
		for _, c := range []struct {
			x     []float64
			place int
		}{
			{[]float64{0, neg0, -1, 0}, 0}, {[]float64{neg0, 0, -1, 0}, 0}, {[]float64{-1, neg0, 0, -1}, 1}, {[]float64{-2, -3, -2, -2}, 0},
			{[]float64{1, 2, 3, 3}, 2}, {[]float64{1, 2, 3, 4}, 3}, {[]float64{low, low, 0, 0}, 0}, {[]float64{neg0, neg0, low, 0}, 2},
		} {
			want := make([]float64, 4)
			want[c.place] = 5
			wantHand(t, width, hand{api.OpGreatest, [][]float64{c.x}, row(5), [][]float64{want}})
		}
		made := tapeOf(input(0, 3, 2, width), takes(api.OpGreatest, 0))
		values := valuesOf(t, made, list(mat(3, 2, width, 1, 2, 2, 1, 1, 1)), nil)
		g := mat(3, 1, width, 7, 8, 9)
		wantRun(t, "row by row", made, values, 1, g, list(mat(3, 2, width, 0, 7, 8, 0, 9, 0), g), api.Fault{})
	}
}

// TestP1202Root: OpSqrt of noughts brings no number from 0, and something infinite with g's sign from others; above 0 it does not.
func TestP1202Root(t *testing.T) {
	for _, width := range widths {
		for _, x := range []float64{0, neg0} {
			for _, g := range []float64{0, neg0} {
				wantHand(t, width, hand{api.OpSqrt, one(x), row(g), one(nan)})
			}
			for _, g := range []float64{1, -1, tiny[width], -tiny[width], 1e30, -1e30} {
				wantHand(t, width, hand{api.OpSqrt, one(x), row(g), one(math.Inf(int(math.Copysign(1, g))))})
			}
			seed := row(0, 0, 1, 0)
			wantHand(t, width, hand{api.OpSqrt, [][]float64{{4, 1, x, x}}, seed, [][]float64{{0, 0, inf, nan}}})
			wantHand(t, width, hand{api.OpSqrt, [][]float64{{4, x, x, 1}}, seed, [][]float64{{0, nan, inf, 0}}})
			wantSign(t, width, x)
		}
		wantHand(t, width, hand{api.OpSqrt, [][]float64{{4, 1}}, row(0, neg0), [][]float64{{0, 0}}})
	}
}

// wantSign sees the sign of what a root of a nought brings: together with an infinite quotient, it is infinite where both signs are alike, else no number.
func wantSign(t *testing.T, width int, x float64) {
	t.Helper()
	made := tapeOf(input(0, 1, 1, width), takes(api.OpSqrt, 0), constant(mat(1, 1, width, tiny[width])), takes(api.OpDiv, 0, 2), takes(api.OpGlueCols, 1, 3))
	values := valuesOf(t, made, list(mat(1, 1, width, x)), nil)
	for _, g := range []float64{1, -1} {
		for _, h := range []float64{great[width], -great[width]} {
			want := api.Fault{Err: api.ErrNaN}
			if g*h > 0 {
				want.Err = api.ErrInf
			}
			wantRun(t, "signs", made, values, 4, mat(1, 2, width, g, h), nil, want)
		}
	}
}

// TestP1201Noughts: a seed's -0, and whatever is rounded to 0, is told as 0.
func TestP1201Noughts(t *testing.T) {
	for _, width := range widths {
		made := every(width)
		inputs, params := ofEvery(width)
		values := valuesOf(t, made, inputs, params)
		for node, m := range values {
			seed := mat(m.Rows, m.Cols, m.Width)
			for range m.Bits {
				seed.Bits = append(seed.Bits, mat(1, 1, m.Width, neg0).Bits[0])
			}
			got, f := reverse.Run(made, values, node, seed)
			if f != (api.Fault{}) {
				t.Fatalf("node %d from noughts: %v", node, f)
			}
			for i, m := range got {
				if slices.Max(m.Bits) != 0 || slices.Min(m.Bits) != 0 {
					t.Errorf("node %d from noughts of node %d: %x", i, node, m)
				}
			}
		}
		low := tiny[width]
		for _, c := range []hand{
			{api.OpMul, one(-1, 0.25), row(low), one(0, -low)},
			{api.OpMul, one(-0.25, 0.25), row(low), one(0, 0)},
			{api.OpDiv, one(1, 4), row(-low), one(0, 0)},
			{api.OpDiv, one(0, 4), row(1), one(0.25, 0)},
			{api.OpDiv, one(0, -4), row(1), one(-0.25, 0)},
			{api.OpMean, [][]float64{{1, 1, 1}}, row(-low), [][]float64{{0, 0, 0}}},
			{api.OpSigmoid, one(0), row(-low), one(0)},
			{api.OpAbs, one(-1), row(0), one(0)},
			{api.OpRelu, one(-1), row(-1), one(0)},
			{api.OpNeg, one(1), row(0), one(0)},
			{api.OpSub, one(1, 1), row(0), one(0, 0)},
		} {
			wantHand(t, width, c)
		}
	}
}

// TestP1201Powers: the floats that OpSoftplus and OpLogSoft take, sigmoid and exp, are chapter 4's.
func TestP1201Powers(t *testing.T) {
	for _, width := range widths {
		r := rand.New(rand.NewSource(11))
		for range 30 {
			x := near(r, 1, 3, width)
			made := tapeOf(input(0, 1, 3, width), takes(api.OpSoftplus, 0), takes(api.OpLogSoft, 0))
			values := valuesOf(t, made, list(x), nil)
			p, _ := kernel.Do(api.OpSigmoid, 0, 0, list(x))
			got, _ := reverse.Run(made, values, 1, mat(1, 3, width, 1, 1, 1))
			if !same(got[0], p) {
				t.Fatalf("softplus from ones: %x, want %x", got[0], p)
			}
			q, _ := kernel.Do(api.OpExp, 0, 0, list(values[2]))
			got, _ = reverse.Run(made, values, 2, mat(1, 3, width, 1, 0, 0))
			if b := got[0].Bits; b[1] != bits.Neg(q.Bits[1], width) || b[2] != bits.Neg(q.Bits[2], width) {
				t.Fatalf("the logarithm of softmax from its first: %x, want %x", got[0], q)
			}
		}
	}
}
