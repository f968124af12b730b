package forward_test

import (
	"math"
	"math/rand"
	"slices"
	"testing"

	"pupil/api"
	"pupil/bits"
	"pupil/eval"
	"pupil/forward"
	"pupil/kernel"
)

var (
	pairOps = []int{api.OpAdd, api.OpSub, api.OpMul, api.OpDiv}
	eachOps = []int{api.OpNeg, api.OpRelu, api.OpAbs, api.OpExp, api.OpLog, api.OpTanh, api.OpSigmoid, api.OpSqrt, api.OpSoftplus}
	manyOps = []int{api.OpSum, api.OpSumRows, api.OpSumCols, api.OpMean, api.OpGreatest, api.OpSoftmax, api.OpLogSoft}
)

// alone is a tape of inputs, and one node that takes them all.
func alone(op, a, b int, in []api.Matrix) api.Tape {
	var t api.Tape
	n := numbers(op, a, b)
	for i, m := range in {
		t.Nodes = append(t.Nodes, input(i, m.Rows, m.Cols, m.Width))
		n.In = append(n.In, i)
	}
	return behind(t, n)
}

// held holds the tangent of one operation against the table; false: its value is not finite, so there is none.
func held(t *testing.T, op, a, b int, in, along []api.Matrix) bool {
	t.Helper()
	made := alone(op, a, b, in)
	values, f := eval.Run(made, in, nil)
	if f != (api.Fault{}) {
		return false
	}
	want, f := runOf(made, values, along, nil)
	got, g := forward.Run(made, values, along, nil)
	if g != f || !sameAll(got, want) {
		if len(in[0].Bits) > 20 {
			t.Fatalf("operation %d of %d by %d, width %d: %v; want %v", op, in[0].Rows, in[0].Cols, in[0].Width, g, f)
		}
		t.Fatalf("operation %d (%d, %d) of %x along %x: %x %v; want %x %v", op, a, b, in, along, got, g, want, f)
	}
	return true
}

// kind is a way to fill a matrix.
type kind func(r *rand.Rand, rows, cols, width int) api.Matrix

// wild has all finite floats, each as likely.
func wild(r *rand.Rand, rows, cols, width int) api.Matrix {
	m := api.Matrix{Rows: rows, Cols: cols, Width: width}
	for len(m.Bits) < rows*cols {
		if b := int(r.Uint64()) >> (64 - width) & (1<<width - 1); isFinite(b, width) {
			m.Bits = append(m.Bits, b)
		}
	}
	return m
}

// near has floats about 1, of both signs, with all their bits.
func near(r *rand.Rand, rows, cols, width int) api.Matrix {
	m := api.Matrix{Rows: rows, Cols: cols, Width: width}
	for range rows * cols {
		m.Bits = append(m.Bits, mat(1, 1, width, r.NormFloat64()).Bits[0])
	}
	return m
}

// steep has a few bits and powers from far apart, so that sums cancel and come half way between two floats.
func steep(r *rand.Rand, rows, cols, width int) api.Matrix {
	m := api.Matrix{Rows: rows, Cols: cols, Width: width}
	half := []int{12, 24, 25, 26, 53, 54, 55}
	for range rows * cols {
		f := 1 + float64(r.Intn(3))
		if r.Intn(2) == 0 {
			f = math.Ldexp(f, -half[r.Intn(len(half))])
		}
		if r.Intn(2) == 0 {
			f = -f
		}
		m.Bits = append(m.Bits, mat(1, 1, width, f).Bits[0])
	}
	return m
}

// low has floats below the normal ones, noughts of both signs among them.
func low(r *rand.Rand, rows, cols, width int) api.Matrix {
	m := api.Matrix{Rows: rows, Cols: cols, Width: width}
	for range rows * cols {
		b := r.Intn(9)
		if r.Intn(2) == 0 {
			b = bits.Neg(b, width)
		}
		m.Bits = append(m.Bits, b)
	}
	return m
}

var kinds = []kind{wild, near, steep, low, some}

// TestP1101Each: the operations on each element, of elements that they have a value of.
func TestP1101Each(t *testing.T) {
	for _, width := range widths {
		for _, op := range eachOps {
			r := rand.New(rand.NewSource(int64(op)))
			done := 0
			for range 40 {
				for _, x := range kinds {
					for _, dx := range kinds {
						if held(t, op, 0, 0, list(x(r, 1, 1, width)), list(dx(r, 1, 1, width))) {
							done++
						}
					}
				}
				held(t, op, 0, 0, list(near(r, 2, 3, width)), list(near(r, 2, 3, width)))
			}
			if done < 300 {
				t.Errorf("operation %d, width %d: %d are held", op, width, done)
			}
		}
	}
}

// TestP1101Pairs: the operations on two elements, of each kind with each other one.
func TestP1101Pairs(t *testing.T) {
	for _, width := range widths {
		for _, op := range pairOps {
			r := rand.New(rand.NewSource(int64(op)))
			done := 0
			for range 3 {
				for _, x := range kinds {
					for _, u := range kinds {
						for _, dx := range kinds {
							for _, du := range kinds {
								in, along := list(x(r, 1, 1, width), u(r, 1, 1, width)), list(dx(r, 1, 1, width), du(r, 1, 1, width))
								if held(t, op, 0, 0, in, along) {
									done++
								}
							}
						}
					}
				}
			}
			if done < 900 {
				t.Errorf("operation %d, width %d: %d are held", op, width, done)
			}
		}
	}
}

// TestP1101Cancels: directions along which a product, and a quotient, hardly grow: what is left of both parts, is what rounding them by themselves would have taken.
func TestP1101Cancels(t *testing.T) {
	for _, width := range widths {
		r := rand.New(rand.NewSource(5))
		for range 300 {
			x, u, dx := near(r, 1, 1, width), near(r, 1, 1, width), near(r, 1, 1, width)
			fx, fu, fdx := float(x.Bits[0], width), float(u.Bits[0], width), float(dx.Bits[0], width)
			held(t, api.OpMul, 0, 0, list(x, u), list(dx, mat(1, 1, width, -fdx*fu/fx)))
			held(t, api.OpDiv, 0, 0, list(x, u), list(dx, mat(1, 1, width, fdx*fu/fx)))
			held(t, api.OpProduct, 0, 0, list(x, u), list(dx, mat(1, 1, width, -fdx*fu/fx)))
		}
	}
}

// TestP1101Stretched: what is stretched, on either side, takes the tangent of the element that it came from.
func TestP1101Stretched(t *testing.T) {
	r := rand.New(rand.NewSource(7))
	for _, width := range widths {
		for _, op := range pairOps {
			for _, s := range [][4]int{{1, 1, 1, 1}, {2, 3, 2, 3}, {1, 2, 2, 1}, {2, 1, 1, 2}, {1, 1, 3, 2}, {3, 2, 1, 1}, {3, 2, 3, 1}, {3, 2, 1, 2}, {3, 1, 3, 2}, {1, 2, 3, 2}, {64, 1, 1, 64}, {1, 4096, 1, 1}, {1, 1, 4096, 1}} {
				if !held(t, op, 0, 0, list(near(r, s[0], s[1], width), near(r, s[2], s[3], width)), list(near(r, s[0], s[1], width), near(r, s[2], s[3], width))) {
					t.Errorf("operation %d of %v is not held", op, s)
				}
			}
		}
	}
	made := tapeOf(input(0, 1, 2, 64), input(1, 2, 1, 64), takes(api.OpMul, 0, 1), takes(api.OpSub, 1, 0))
	values := valuesOf(t, made, list(mat(1, 2, 64, 2, 3), mat(2, 1, 64, 5, 7)), nil)
	row, col := mat(1, 2, 64, 10, 100), mat(2, 1, 64, 1000, 10000)
	wantRun(t, "by hand", made, values, list(row, col), nil, list(row, col,
		mat(2, 2, 64, 50+2000, 500+3000, 70+20000, 700+30000), mat(2, 2, 64, 990, 900, 9990, 9900)), api.Fault{})
}

// TestP1101Twice: a node that takes one node at both places.
func TestP1101Twice(t *testing.T) {
	for _, width := range widths {
		r := rand.New(rand.NewSource(8))
		for _, x := range kinds {
			for range 30 {
				in, along := x(r, 2, 2, width), near(r, 2, 2, width)
				for _, n := range []api.Node{takes(api.OpAdd, 0, 0), takes(api.OpSub, 0, 0), takes(api.OpMul, 0, 0), takes(api.OpDiv, 0, 0), takes(api.OpProduct, 0, 0), takes(api.OpGlueCols, 0, 0, 0), takes(api.OpGlueRows, 0, 0)} {
					made := tapeOf(input(0, 2, 2, width), n)
					values, f := eval.Run(made, list(in), nil)
					if f != (api.Fault{}) {
						continue
					}
					want, f := runOf(made, values, list(along), nil)
					wantRun(t, "twice", made, values, list(along), nil, want, f)
				}
			}
		}
	}
	three := list(mat(1, 1, 64, 3))
	for op, want := range map[int]float64{api.OpAdd: 10, api.OpSub: 0, api.OpMul: 30, api.OpDiv: 0, api.OpProduct: 30} {
		made := tapeOf(input(0, 1, 1, 64), takes(op, 0, 0))
		wantRun(t, "by hand", made, valuesOf(t, made, three, nil), list(mat(1, 1, 64, 5)), nil, list(mat(1, 1, 64, 5), mat(1, 1, 64, want)), api.Fault{})
	}
}

// TestP1101Product: rows by columns, both parts in one sum.
func TestP1101Product(t *testing.T) {
	r := rand.New(rand.NewSource(9))
	for _, width := range widths {
		for _, s := range [][3]int{{1, 1, 1}, {1, 3, 1}, {3, 1, 1}, {1, 1, 3}, {3, 1, 2}, {2, 3, 4}, {4, 3, 2}, {1, 5, 4}, {4, 5, 1}, {1, 512, 1}, {16, 2, 16}} {
			for _, x := range kinds {
				for _, dx := range kinds {
					if s[1] < 500 || x(r, 1, 1, width).Bits[0] == 0 {
						held(t, api.OpProduct, 0, 0, list(x(r, s[0], s[1], width), x(r, s[1], s[2], width)), list(dx(r, s[0], s[1], width), dx(r, s[1], s[2], width)))
					}
				}
			}
			if !held(t, api.OpProduct, 0, 0, list(steep(r, s[0], s[1], width), near(r, s[1], s[2], width)), list(near(r, s[0], s[1], width), steep(r, s[1], s[2], width))) {
				t.Errorf("a product of %v is not held", s)
			}
		}
	}
}

// TestP1101Many: sums, means, the greatest, softmax and its logarithm.
func TestP1101Many(t *testing.T) {
	for _, width := range widths {
		for _, op := range manyOps {
			r := rand.New(rand.NewSource(int64(op)))
			done := 0
			for _, s := range [][2]int{{1, 1}, {1, 2}, {2, 1}, {1, 7}, {7, 1}, {3, 4}, {2, 2}} {
				for _, x := range kinds {
					for _, dx := range kinds {
						if held(t, op, 0, 0, list(x(r, s[0], s[1], width)), list(dx(r, s[0], s[1], width))) {
							done++
						}
					}
				}
			}
			if done < 100 {
				t.Errorf("operation %d, width %d: %d are held", op, width, done)
			}
		}
	}
}

// TestP1101Moves: what only goes elsewhere, and what takes another width.
func TestP1101Moves(t *testing.T) {
	r := rand.New(rand.NewSource(10))
	for _, width := range widths {
		for _, dx := range kinds {
			along := func(l []api.Matrix) []api.Matrix {
				var made []api.Matrix
				for _, m := range l {
					made = append(made, dx(r, m.Rows, m.Cols, m.Width))
				}
				return made
			}
			six, row := list(near(r, 2, 3, width)), list(near(r, 1, 6, width))
			for _, c := range []struct {
				op, a, b int
				in       []api.Matrix
			}{
				{api.OpTurn, 0, 0, six}, {api.OpForm, 6, 1, six}, {api.OpForm, 3, 2, six}, {api.OpForm, 1, 6, six},
				{api.OpCutCols, 1, 3, six}, {api.OpCutCols, 0, 3, six}, {api.OpCutRows, 1, 2, six}, {api.OpCutRows, 0, 1, six},
				{api.OpGlueCols, 0, 0, six}, {api.OpGlueCols, 0, 0, list(six[0], near(r, 2, 1, width), six[0])},
				{api.OpGlueRows, 0, 0, six}, {api.OpGlueRows, 0, 0, list(near(r, 3, 3, width), six[0])},
				{api.OpWindow, 2, 1, row}, {api.OpWindow, 3, 3, row}, {api.OpWindow, 4, 2, row}, {api.OpWindow, 6, 9, row}, {other(width), 0, 0, six},
			} {
				if !held(t, c.op, c.a, c.b, c.in, along(c.in)) {
					t.Errorf("operation %d is not held", c.op)
				}
			}
		}
	}
}

// hand is a tape of one operation on numbers, or on rows of them, and its tangent.
type hand struct {
	op        int
	in, along [][]float64
	want      []float64
}

// wantHand holds the tangent of rows of numbers against what is reckoned by hand.
func wantHand(t *testing.T, width int, c hand) {
	t.Helper()
	var in, along []api.Matrix
	for i := range c.in {
		in, along = append(in, mat(1, len(c.in[i]), width, c.in[i]...)), append(along, mat(1, len(c.in[i]), width, c.along[i]...))
	}
	made := alone(c.op, 0, 0, in)
	values, f := eval.Run(made, in, nil)
	if f != (api.Fault{}) {
		t.Errorf("operation %d of %v: %v", c.op, c.in, f)
		return
	}
	want := mat(1, len(c.want), values[len(in)].Width, c.want...)
	got, f := forward.Run(made, values, along, nil)
	if bad := unfinite(want, len(in)); f != bad {
		t.Errorf("operation %d of %v along %v, width %d: %v, want %v", c.op, c.in, c.along, width, f, bad)
	} else if f.Err == api.OK && !same(got[len(in)], want) {
		t.Errorf("operation %d of %v along %v, width %d: %x, want %x", c.op, c.in, c.along, width, got[len(in)].Bits, want.Bits)
	}
}

func one(l ...float64) [][]float64 {
	var rows [][]float64
	for _, f := range l {
		rows = append(rows, []float64{f})
	}
	return rows
}

// TestP1101Once: one rounding, of numbers for which two would show; half way to the even one; beyond the greatest one.
func TestP1101Once(t *testing.T) {
	tiny, ulp, great := map[int]float64{32: 0x1p-149, 64: 0x1p-1074}, map[int]float64{32: 0x1p-23, 64: 0x1p-52}, map[int]float64{32: math.MaxFloat32, 64: math.MaxFloat64}
	top := map[int]float64{32: 0x1p103, 64: 0x1p970} // half of the step between the greatest ones
	for _, w := range widths {
		e, u, g, h := tiny[w], ulp[w], great[w], top[w]
		for _, c := range []hand{
			{api.OpAdd, one(0, 0), one(1, u/2), []float64{1}},
			{api.OpAdd, one(0, 0), one(1+u, u/2), []float64{1 + 2*u}},
			{api.OpAdd, one(0, 0), one(1, u/2*(1+u)), []float64{1 + u}},
			{api.OpSub, one(0, 0), one(1, -u/2), []float64{1}},
			{api.OpSub, one(0, 0), one(1+u, -u/2), []float64{1 + 2*u}},
			{api.OpAdd, one(0, 0), one(g, h/2), []float64{g}},
			{api.OpAdd, one(0, 0), one(g, h), []float64{inf}},
			{api.OpSub, one(0, 0), one(-g, h), []float64{-inf}},
			{api.OpMul, one(1, 1), one(1, u/2), []float64{1}},
			{api.OpMul, one(1, 1), one(1+u, u/2), []float64{1 + 2*u}},
			{api.OpMul, one(1+u, 1), one(1, u/2), []float64{1 + u}},          // 1 + u/2 + u^2/2
			{api.OpMul, one(1+u, 1+u), one(1, -1), []float64{0}},             // each part is 1 + u
			{api.OpMul, one(1+u, 1-u/2), one(1, -1), []float64{-u * 3 / 2}},  // 1 - u/2 - 1 - u
			{api.OpMul, one(1, 1+u), one(1+3*u, -1), []float64{4*u + 4*u*u}}, // (1 + u)(1 + 3u) - 1, of which rounded products leave 4u
			{api.OpMul, one(4, 4), one(g, -g), []float64{0}},                 // each part is beyond the greatest one
			{api.OpMul, one(4, 4), one(g, -g+2*h), []float64{8 * h}},         // likewise
			{api.OpMul, one(0, 0.5), one(e, 5), []float64{0}},                // half of the least one
			{api.OpMul, one(0, 0.5), one(3*e, 5), []float64{2 * e}},          //
			{api.OpMul, one(e, 0.5), one(e, 0.25), []float64{e}},             // 1/2 and 1/4 of it
			{api.OpMul, one(e, e), one(0.25, 0.25), []float64{0}},            // half of it, of two quarters
			{api.OpMul, one(2, 2), one(g, 0), []float64{inf}},
			{api.OpDiv, one(1, 3), one(1, 0), []float64{mean(1, 3, w)}},
			{api.OpDiv, one(0, 2), one(e, 0), []float64{0}},
			{api.OpDiv, one(0, 2), one(3*e, 0), []float64{2 * e}},
			{api.OpDiv, one(6, 2), one(3, 1), []float64{0}},
			{api.OpDiv, one(1+u, 1), one(1, 1), []float64{-u}},      // y is 1 + u
			{api.OpDiv, one(1, 0.5), one(g, -g), []float64{inf}},    // 6 times the greatest one
			{api.OpDiv, one(2, -1), one(g, -g/2), []float64{0}},     // g - g
			{api.OpDiv, one(4, 1), one(g, g/4), []float64{0}},       // likewise
			{api.OpDiv, one(4, 4), one(g, g), []float64{0}},         //
			{api.OpDiv, one(-8, 8), one(g, g), []float64{g / 4}},    // 2g by 8
			{api.OpNeg, one(1), one(1), []float64{-1}},              //
			{api.OpExp, one(0), one(e), []float64{e}},               //
			{api.OpLog, one(2), one(e), []float64{0}},               //
			{api.OpLog, one(2), one(3 * e), []float64{2 * e}},       //
			{api.OpLog, one(3), one(1), []float64{mean(1, 3, w)}},   //
			{api.OpLog, one(e), one(e), []float64{1}},               //
			{api.OpLog, one(0.5), one(-g), []float64{-inf}},         //
			{api.OpTanh, one(0), one(1 + u), []float64{1 + u}},      //
			{api.OpTanh, one(40), one(g), []float64{0}},             // y is 1
			{api.OpSigmoid, one(0), one(2 * e), []float64{0}},       // a quarter of it
			{api.OpSigmoid, one(0), one(6 * e), []float64{2 * e}},   //
			{api.OpSigmoid, one(800), one(g), []float64{0}},         //
			{api.OpSoftplus, one(0), one(e), []float64{0}},          //
			{api.OpSoftplus, one(0), one(3 * e), []float64{2 * e}},  //
			{api.OpSoftplus, one(800), one(g), []float64{g}},        //
			{api.OpSqrt, one(1), one(e), []float64{0}},              //
			{api.OpSqrt, one(1), one(3 * e), []float64{2 * e}},      //
			{api.OpSqrt, one(9), one(1), []float64{mean(1, 6, w)}},  //
			{api.OpSqrt, one(0x1p-40), one(g), []float64{inf}},      //
			{api.OpSqrt, one(0.0625), one(g / 4), []float64{g / 2}}, //
			{api.OpProduct, one(1+u, 1), one(1, u/2), []float64{1 + u}},
			{api.OpProduct, one(4, 4), one(g, -g), []float64{0}},
			{api.OpSum, [][]float64{{0, 0, 0}}, [][]float64{{1, u / 2, u * u}}, []float64{1 + u}},
			{api.OpSum, [][]float64{{0, 0}}, [][]float64{{1, u / 2}}, []float64{1}},
			{api.OpSum, [][]float64{{0, 0, 0}}, [][]float64{{g, g, -g}}, []float64{g}},
			{api.OpSumRows, [][]float64{{0, 0, 0}}, [][]float64{{1, u / 2, u * u}}, []float64{1 + u}},
			{api.OpSumCols, [][]float64{{0, 0, 0}}, [][]float64{{1, u / 2, u * u}}, []float64{1, u / 2, u * u}},
			{api.OpMean, [][]float64{{0, 0, 0}}, [][]float64{{1, 1, 2}}, []float64{mean(4, 3, w)}},
			{api.OpMean, [][]float64{{0, 0}}, [][]float64{{g, g}}, []float64{g}},
			{api.OpMean, [][]float64{{0, 0}}, [][]float64{{e, 2 * e}}, []float64{2 * e}},
			{api.OpMean, [][]float64{{0, 0}}, [][]float64{{e, 0}}, []float64{0}},
			{api.OpSoftmax, [][]float64{{0, 0}}, [][]float64{{e, -e}}, []float64{0, 0}}, // half of the least one
			{api.OpSoftmax, [][]float64{{0, 0}}, [][]float64{{3 * e, -3 * e}}, []float64{2 * e, -2 * e}},
			{api.OpSoftmax, [][]float64{{0, 0}}, [][]float64{{g, -g}}, []float64{g / 2, -g / 2}}, // (g + g) / 4
			{api.OpSoftmax, [][]float64{{0, 0}}, [][]float64{{1 + u, 1}}, []float64{u / 4, -u / 4}},
			{api.OpSoftmax, [][]float64{{900, 0}}, [][]float64{{g, -g}}, []float64{0, 0}},
		} {
			wantHand(t, w, c)
		}
	}
	for _, c := range []hand{
		{api.OpNarrow, one(0), one(1 + 0x1p-24), []float64{1}},
		{api.OpNarrow, one(0), one(1 + 0x1p-24 + 0x1p-52), []float64{1 + 0x1p-23}},
		{api.OpNarrow, one(0), one(1 + 3*0x1p-24), []float64{1 + 0x1p-22}},
		{api.OpNarrow, one(0), one(0x1p-150), []float64{0}},
		{api.OpNarrow, one(0), one(-0x1p-150), []float64{0}},
		{api.OpNarrow, one(0), one(-0x1p-150 * (1 + 0x1p-52)), []float64{-0x1p-149}},
		{api.OpNarrow, one(0), one(math.MaxFloat32 + 0x1p103), []float64{inf}},
		{api.OpNarrow, one(0), one(0x1p128 - 0x1p103 - 0x1p75), []float64{math.MaxFloat32}},
	} {
		wantHand(t, 64, c)
	}
	wantHand(t, 32, hand{api.OpWide, one(0), one(-0x1p-149), []float64{-0x1p-149}})
	// A sum of binary32 that is made in binary64 and narrowed would be rounded twice.
	wantHand(t, 32, hand{api.OpSum, [][]float64{{0, 0, 0}}, [][]float64{{1, 0x1p-24, 0x1p-100}}, []float64{1 + 0x1p-23}})
	wantHand(t, 32, hand{api.OpMul, one(1, 0x1p-60), one(0x1p-60, 1+0x1p-23), []float64{1 + 0x1p-23}})
	wantHand(t, 32, hand{api.OpMul, one(1+0x1p-23, 0x1p-60), one(0x1p-60, 1+0x1p-23), []float64{1 + 0x1p-22}})
}

// mean tells a quotient of small whole numbers, rounded once.
func mean(a, b float64, width int) float64 {
	if width == 32 {
		return float64(float32(a) / float32(b))
	}
	return a / b
}

// TestP1101Kinks: OpRelu and OpAbs above, below and at noughts; the greatest of a row, where several are as great.
func TestP1101Kinks(t *testing.T) {
	for _, width := range widths {
		low := map[int]float64{32: 0x1p-149, 64: 0x1p-1074}[width]
		x := []float64{3, -3, 0, neg0, low, -low}
		along := [][]float64{{7, 8, 9, 10, -11, -12}}
		wantHand(t, width, hand{api.OpRelu, [][]float64{x}, along, []float64{7, 0, 0, 0, -11, 0}})
		wantHand(t, width, hand{api.OpAbs, [][]float64{x}, along, []float64{7, -8, 0, 0, -11, 12}})
		for _, c := range []struct {
			x     []float64
			place int
		}{
			{[]float64{0, neg0, -1, 0}, 0}, {[]float64{neg0, 0, -1, 0}, 0}, {[]float64{-1, neg0, 0, -1}, 1}, {[]float64{-2, -3, -2, -2}, 0},
			{[]float64{1, 2, 3, 3}, 2}, {[]float64{1, 2, 3, 4}, 3}, {[]float64{low, low, 0, 0}, 0}, {[]float64{neg0, neg0, low, 0}, 2},
		} {
			along := []float64{5, 6, 7, 8}
			wantHand(t, width, hand{api.OpGreatest, [][]float64{c.x}, [][]float64{along}, along[c.place : c.place+1]})
		}
		made := tapeOf(input(0, 3, 2, width), takes(api.OpGreatest, 0))
		values := valuesOf(t, made, list(mat(3, 2, width, 1, 2, 2, 1, 1, 1)), nil)
		along2 := mat(3, 2, width, 1, 2, 3, 4, 5, 6)
		wantRun(t, "row by row", made, values, list(along2), nil, list(along2, mat(3, 1, width, 2, 3, 5)), api.Fault{})
	}
}

// TestP1101Root: OpSqrt of noughts stops, along 0 as no number, along others as infinite; above 0 it does not.
func TestP1101Root(t *testing.T) {
	for _, width := range widths {
		low := map[int]float64{32: 0x1p-149, 64: 0x1p-1074}[width]
		for _, x := range []float64{0, neg0} {
			for _, dx := range []float64{0, neg0} {
				wantHand(t, width, hand{api.OpSqrt, one(x), one(dx), []float64{nan}})
			}
			for _, dx := range []float64{1, -1, low, -low, 1e30, -1e30} {
				wantHand(t, width, hand{api.OpSqrt, one(x), one(dx), []float64{math.Inf(int(math.Copysign(1, dx)))}})
			}
			along := [][]float64{{0, 0, 1, 0}}
			wantHand(t, width, hand{api.OpSqrt, [][]float64{{4, 1, x, x}}, along, []float64{0, 0, inf, nan}})
			wantHand(t, width, hand{api.OpSqrt, [][]float64{{4, x, x, 1}}, along, []float64{0, nan, inf, 0}})
		}
		wantHand(t, width, hand{api.OpSqrt, [][]float64{{4, 1}}, [][]float64{{0, neg0}}, []float64{0, 0}})
	}
}

// TestP1101Noughts: a direction's -0 stays; whatever the table makes of it is 0.
func TestP1101Noughts(t *testing.T) {
	for _, width := range widths {
		made := every(width)
		inputs, params := ofEvery(width)
		values := valuesOf(t, made, inputs, params)
		for _, nought := range []float64{0, neg0} {
			in, pa := copies(inputs), copies(params)
			for _, m := range append(slices.Clone(in), pa...) {
				for i := range m.Bits {
					m.Bits[i] = mat(1, 1, width, nought).Bits[0]
				}
			}
			got, f := forward.Run(made, values, in, pa)
			if f != (api.Fault{}) {
				t.Fatalf("along noughts: %v", f)
			}
			for node, m := range got {
				want := mat(m.Rows, m.Cols, m.Width, make([]float64, len(m.Bits))...)
				switch n := made.Nodes[node]; n.Op {
				case api.OpInput:
					want = in[n.A]
				case api.OpParam:
					want = pa[n.A]
				}
				if !same(m, want) {
					t.Errorf("node %d along %v: %x", node, nought, m)
				}
			}
		}
		for _, op := range slices.Concat(eachOps, []int{other(width), api.OpTurn, api.OpGlueCols, api.OpSum, api.OpGreatest, api.OpSoftmax, api.OpLogSoft}) {
			wantHand(t, width, hand{op, one(1), one(neg0), []float64{0}})
		}
		for _, op := range []int{api.OpAdd, api.OpSub, api.OpMul, api.OpDiv, api.OpProduct} {
			wantHand(t, width, hand{op, one(1, 1), one(neg0, neg0), []float64{0}})
			wantHand(t, width, hand{op, one(1, -1), one(neg0, 0), []float64{0}})
			wantHand(t, width, hand{op, one(-1, -1), one(neg0, 0), []float64{0}})
		}
		// What is too small for the width is 0 too, whatever its sign.
		low := map[int]float64{32: 0x1p-149, 64: 0x1p-1074}[width]
		wantHand(t, width, hand{api.OpMul, one(1, 0.25), one(-low, 0), []float64{0}})
		wantHand(t, width, hand{api.OpDiv, one(1, 4), one(-low, 0), []float64{0}})
		wantHand(t, width, hand{api.OpMean, [][]float64{{1, 1, 1}}, [][]float64{{-low, 0, 0}}, []float64{0}})
		wantHand(t, width, hand{api.OpSigmoid, one(0), one(-low), []float64{0}})
		wantHand(t, width, hand{api.OpAbs, one(-1), one(0), []float64{0}})
		wantHand(t, width, hand{api.OpRelu, one(-1), one(-1), []float64{0}})
	}
}

// TestP1101Powers: the floats that OpSoftplus and OpLogSoft take, sigmoid and exp, are chapter 4's.
func TestP1101Powers(t *testing.T) {
	for _, width := range widths {
		r := rand.New(rand.NewSource(11))
		for range 30 {
			x := near(r, 1, 3, width)
			made := tapeOf(input(0, 1, 3, width), takes(api.OpSoftplus, 0), takes(api.OpLogSoft, 0))
			values := valuesOf(t, made, list(x), nil)
			p, _ := kernel.Do(api.OpSigmoid, 0, 0, list(x))
			got, _ := forward.Run(made, values, list(mat(1, 3, width, 1, 1, 1)), nil)
			if !same(got[1], p) {
				t.Fatalf("softplus along ones: %x, want %x", got[1], p)
			}
			q, _ := kernel.Do(api.OpExp, 0, 0, list(values[2]))
			got, _ = forward.Run(made, values, list(mat(1, 3, width, 1, 0, 0)), nil)
			if want := bits.Neg(q.Bits[0], width); got[2].Bits[1] != want || got[2].Bits[2] != want {
				t.Fatalf("the logarithm of softmax along its first: %x, want %x", got[2], want)
			}
		}
	}
}
