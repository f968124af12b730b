package bound_test

import (
	"math"
	"testing"

	"pupil/api"
	"pupil/eval"
)

func row(l ...float64) []float64 { return l }

// along is an operation on rows of numbers, their directions, and the spans of what comes of them, from each number to the next one.
type along struct {
	op         int
	in, moving [][]float64
	want       []float64
}

func one(l ...float64) [][]float64 {
	var rows [][]float64
	for _, f := range l {
		rows = append(rows, row(f))
	}
	return rows
}

// rowsOf tells matrices of one row each.
func rowsOf(width int, rows [][]float64) []api.Matrix {
	var l []api.Matrix
	for _, x := range rows {
		l = append(l, mat(1, len(x), width, x...))
	}
	return l
}

// wantAhead holds the spans of one operation's tangents against what is reckoned by hand.
func wantAhead(t *testing.T, width int, c along) {
	t.Helper()
	var made api.Tape
	n := takes(c.op)
	in := rowsOf(width, c.in)
	for i, m := range in {
		made.Nodes = append(made.Nodes, input(i, 1, m.Cols, width))
		n.In = append(n.In, i)
	}
	made.Nodes = append(made.Nodes, n)
	x := told{tape: made, values: valuesOf(t, made, in, nil), inputs: rowsOf(width, c.moving)}
	spans, f := x.forward()
	w := x.values[len(in)].Width
	if want := spansOf(w, c.want...); f != (api.Fault{}) || !sameSpans(spans[len(in):], [][]api.Span{want}) {
		t.Errorf("operation %d of %v along %v, width %d: %x %v, want %x", c.op, c.in, c.moving, width, spans, f, want)
	}
}

// quot tells a quotient of two floats, rounded once.
func quot(a, b float64, width int) float64 {
	if width == 32 {
		return float64(float32(a) / float32(b))
	}
	return a / b
}

// next tells the float behind one.
func next(f float64, width int) float64 { return -below(-f, width) }

// TestP1301Outward: of each row the ends, rounded outward once; what the width has stays.
func TestP1301Outward(t *testing.T) {
	for _, w := range widths {
		e, u, g := tiny[w], ulp[w], great[w]
		third := quot(1, 3, w) // the one below in width 64, the one above in width 32
		if w == 32 {
			third = below(third, w)
		}
		sixth := third / 2
		for _, c := range []along{
			{api.OpAdd, one(1, 2), one(1, u), row(1+u, 1+u)},
			{api.OpAdd, one(1, 2), one(1, u/2), row(1, 1+u)},
			{api.OpAdd, one(1, 2), one(-1, -u/2), row(-1-u, -1)},
			{api.OpAdd, one(1, 2), one(1, e), row(1, 1+u)},
			{api.OpAdd, one(1, 2), one(1, -e), row(1-u/2, 1)},
			{api.OpAdd, one(1, 2), one(neg0, neg0), row(0, 0)},
			{api.OpAdd, one(1, 2), one(g, e), row(g, inf)},
			{api.OpAdd, one(1, 2), one(-g, -e), row(-inf, -g)},
			{api.OpAdd, one(1, 2), one(g, -e), row(below(g, w), g)},
			{api.OpSub, one(1, 2), one(1, u/4), row(1-u/2, 1)},
			{api.OpSub, one(1, 2), one(1, 1), row(0, 0)},
			{api.OpMul, one(3, 0.5), one(e, 0), row(0, e)},
			{api.OpMul, one(3, 0.5), one(-e, 0), row(-e, 0)}, // not -0
			{api.OpMul, one(1+u, 1+u), one(1+u, 0), row(1+2*u, 1+3*u)},
			{api.OpMul, one(1+u, 1+u), one(1+u, -1), row(u*(1+u), u*(1+u))}, // both products in one sum
			{api.OpDiv, one(1, 3), one(1, 0), row(third, next(third, w))},
			{api.OpDiv, one(1, -3), one(1, 0), row(-next(third, w), -third)},
			{api.OpDiv, one(6, 2), one(e, 0), row(0, e)},
			{api.OpDiv, one(6, -2), one(e, 0), row(-e, 0)},
			{api.OpDiv, one(6, 2), one(6, 2), row(0, 0)},
			{api.OpDiv, one(6, 2), one(4, 1), row(0.5, 0.5)},
			{api.OpNeg, one(1), one(0), row(0, 0)},
			{api.OpNeg, one(1), one(1 + u), row(-1-u, -1-u)},
			{api.OpRelu, one(1), one(-3), row(-3, -3)},
			{api.OpRelu, one(-1), one(-3), row(0, 0)},
			{api.OpAbs, one(-1), one(-3), row(3, 3)},
			{api.OpAbs, one(neg0), one(-3), row(0, 0)},
			{api.OpExp, one(0), one(-7), row(-7, -7)},
			{api.OpLog, one(3), one(1), row(third, next(third, w))},
			{api.OpLog, one(2), one(-e), row(-e, 0)},
			{api.OpTanh, one(0), one(5), row(5, 5)},
			{api.OpTanh, one(40), one(g), row(0, 0)},
			{api.OpSigmoid, one(0), one(e), row(0, e)},
			{api.OpSoftplus, one(0), one(-e), row(-e, 0)},
			{api.OpSqrt, one(9), one(1), row(sixth, next(sixth, w))},
			{api.OpSqrt, one(0.25), one(-e), row(-e, -e)},
			{api.OpProduct, one(3, 0.5), one(e, 0), row(0, e)},
			{api.OpSum, [][]float64{{1, 2, 3}}, [][]float64{{1, u / 4, u / 4}}, row(1, 1+u)},
			{api.OpSum, [][]float64{{1, 2, 3}}, [][]float64{{1, g, -g}}, row(1, 1)},
			{api.OpSumRows, [][]float64{{1, 2, 3}}, [][]float64{{1, -e, 0}}, row(1-u/2, 1)},
			{api.OpSumCols, [][]float64{{1, 2}}, [][]float64{{e, neg0}}, row(e, e, 0, 0)},
			{api.OpMean, [][]float64{{1, 2, 3}}, [][]float64{{1, 1, -1}}, row(third, next(third, w))},
			{api.OpMean, [][]float64{{1, 2}}, [][]float64{{-e, 0}}, row(-e, 0)},
			{api.OpGreatest, [][]float64{{1, 2}}, [][]float64{{5, neg0}}, row(0, 0)},
			{api.OpSoftmax, [][]float64{{0, 0}}, [][]float64{{e, 0}}, row(0, e, -e, 0)}, // a quarter
			{api.OpSoftmax, [][]float64{{0, 0}}, [][]float64{{4, 8}}, row(-1, -1, 1, 1)},
			{api.OpLogSoft, [][]float64{{900, 0}}, [][]float64{{1, 3}}, row(0, 0, 2, 2)},
			{api.OpLogSoft, [][]float64{{900, 0}}, [][]float64{{1, u / 4}}, row(0, 0, -1, -1+u/2)},
		} {
			wantAhead(t, w, c)
		}
	}
	up := 0x1p-23
	for _, c := range []along{
		{api.OpNarrow, one(0), one(1 + 0x1p-52), row(1, 1+up)},
		{api.OpNarrow, one(0), one(-1 - 0x1p-52), row(-1-up, -1)},
		{api.OpNarrow, one(0), one(1 + up), row(1+up, 1+up)},
		{api.OpNarrow, one(0), one(-0x1p-200), row(-0x1p-149, 0)},
		{api.OpNarrow, one(0), one(math.MaxFloat32 + 0x1p90), row(math.MaxFloat32, inf)},
	} {
		wantAhead(t, 64, c)
	}
	wantAhead(t, 32, along{api.OpWide, one(0), one(1 + up), row(1+up, 1+up)})
	wantAhead(t, 32, along{api.OpWide, one(0), one(neg0), row(0, 0)})
}

// reached is a tape of rows whose tangents have the spans from the greatest float on and from below its negative: a sum of two inputs stands ahead of each place. It tells the tape, without its last node, and where the sums stand.
func reached(width int, in [][]float64) (api.Tape, []int) {
	var made api.Tape
	var sums []int
	for i, l := range in {
		made = behind(made, input(2*i, 1, len(l), width), input(2*i+1, 1, len(l), width))
	}
	for i := range in {
		made = behind(made, takes(api.OpAdd, 2*i, 2*i+1))
		sums = append(sums, 2*len(in)+i)
	}
	return made, sums
}

// TestP1301Infinite: infinite ends with a c above 0, below 0 and of 0, and by divisors of both signs.
func TestP1301Infinite(t *testing.T) {
	for _, w := range widths {
		g := great[w]
		for _, c := range []along{
			{api.OpNeg, one(1), one(g), row(-inf, -g)},
			{api.OpNeg, one(1), one(-g), row(g, inf)},
			{api.OpRelu, one(1), one(g), row(g, inf)},
			{api.OpRelu, one(-1), one(g), row(0, 0)},
			{api.OpAbs, one(-1), one(g), row(-inf, -g)},
			{api.OpAbs, one(0), one(g), row(0, 0)},
			{api.OpMul, one(1, 0.5), one(g, 0), row(g/2, inf)},
			{api.OpMul, one(1, -0.5), one(g, 0), row(-inf, -g/2)},
			{api.OpMul, one(1, 0), one(g, 0), row(0, 0)},
			{api.OpMul, one(0.5, 0.5), one(g, -g), row(-inf, inf)},
			{api.OpDiv, one(1, 2), one(g, 0), row(g/2, inf)},
			{api.OpDiv, one(1, -2), one(g, 0), row(-inf, -g/2)},
			{api.OpDiv, one(0, 2), one(0, g), row(0, 0)},
			{api.OpLog, one(2), one(g), row(g/2, inf)},
			{api.OpTanh, one(40), one(g), row(0, 0)},
			{api.OpSqrt, one(1), one(-g), row(-inf, -g/2)},
			{api.OpSum, [][]float64{{1, 2}}, [][]float64{{g, -g}}, row(-inf, inf)},
			{api.OpMean, [][]float64{{1, 2}}, [][]float64{{g, 0}}, row(g/2, inf)},
			{api.OpGreatest, [][]float64{{1, 2}}, [][]float64{{g, 1}}, row(1, 1)},
			{api.OpProduct, one(0.5, -0.5), one(g, g), row(-inf, inf)},
			{api.OpSoftmax, [][]float64{{0, 0}}, [][]float64{{g, 0}}, row(g/4, inf, -inf, -g/4)},
			{api.OpSoftmax, [][]float64{{0, 0}}, [][]float64{{g, g}}, row(-inf, inf, -inf, inf)},
			{api.OpSoftmax, [][]float64{{900, 0}}, [][]float64{{g, g}}, row(0, 0, 0, 0)},
			{api.OpSoftmax, [][]float64{{7}}, [][]float64{{g}}, row(0, 0)}, // 1 and -1 count as one
			{api.OpLogSoft, [][]float64{{7}}, [][]float64{{g}}, row(0, 0)},
			{api.OpLogSoft, [][]float64{{900, 0}}, [][]float64{{g, 0}}, row(0, 0, -inf, -g)},
			{api.OpLogSoft, [][]float64{{900, 0}}, [][]float64{{0, g}}, row(0, 0, g, inf)},
			{api.OpLogSoft, [][]float64{{900, 0}}, [][]float64{{g, g}}, row(0, 0, -inf, inf)},
		} {
			made, sums := reached(w, c.in)
			made = behind(made, takes(c.op, sums...))
			var in, moving []api.Matrix
			for i, m := range rowsOf(w, c.in) {
				push := zeros(m)
				for k, f := range c.moving[i] {
					if math.Abs(f) == g {
						push.Bits[k] = mat(1, 1, w, math.Copysign(1, f)).Bits[0]
					}
				}
				in, moving = append(in, m, zeros(m)), append(moving, mat(1, m.Cols, w, c.moving[i]...), push)
			}
			x := told{tape: made, values: valuesOf(t, made, in, nil), inputs: moving}
			spans, f := x.forward()
			if last := len(made.Nodes) - 1; f != (api.Fault{}) || !sameSpans(spans[last:], [][]api.Span{spansOf(w, c.want...)}) {
				t.Errorf("operation %d of %v along %v, width %d: %x %v, want %v", c.op, c.in, c.moving, w, spans, f, c.want)
			}
		}
	}
}

// zeros tells noughts, of the shape of a matrix.
func zeros(m api.Matrix) api.Matrix {
	m.Bits = make([]int, len(m.Bits))
	return m
}

// ones tells ones, of the shape of a matrix.
func ones(m api.Matrix) api.Matrix {
	m = zeros(m)
	for i := range m.Bits {
		m.Bits[i] = mat(1, 1, m.Width, 1).Bits[0]
	}
	return m
}

// home is an operation on rows of numbers, a seed, and the spans of what is brought to each of them.
type home struct {
	op   int
	in   [][]float64
	seed []float64
	want [][]float64
}

// wantBack holds the spans that one operation brings against what is reckoned by hand. Where push is not nil, the operation's node is taken by two nodes, one of which brings the seed, and the other one that.
func wantBack(t *testing.T, width int, c home, push func(seed api.Matrix) api.Matrix) {
	t.Helper()
	var made api.Tape
	n := takes(c.op)
	in := rowsOf(width, c.in)
	for i, m := range in {
		made.Nodes = append(made.Nodes, input(i, 1, m.Cols, width))
		n.In = append(n.In, i)
	}
	last := len(in)
	made = behind(made, n)
	values, _ := eval.Run(made, in, nil)
	seed := mat(1, len(c.seed), values[last].Width, c.seed...)
	if push != nil {
		made = behind(made, takes(api.OpGlueRows, last, last))
		more := push(seed)
		seed.Rows, seed.Bits = 2, append(seed.Bits, more.Bits...)
		last++
	}
	x := told{tape: made, values: valuesOf(t, made, in, nil), node: last, seed: seed}
	spans, f := x.reverse()
	if f != (api.Fault{}) {
		t.Errorf("operation %d of %v from %v, width %d: %v", c.op, c.in, c.seed, width, f)
		return
	}
	for i := range in {
		if want := spansOf(width, c.want[i]...); !sameSpans(spans[i:i+1], [][]api.Span{want}) {
			t.Errorf("operation %d of %v from %v, width %d, place %d: %x, want %x", c.op, c.in, c.seed, width, i, spans[i], want)
		}
	}
}

// TestP1302Outward: of each row what is brought, rounded outward once; what the width has stays.
func TestP1302Outward(t *testing.T) {
	for _, w := range widths {
		e, u, g := tiny[w], ulp[w], great[w]
		third := quot(1, 3, w)
		if w == 32 {
			third = below(third, w)
		}
		thirds, sixths := row(third, next(third, w)), row(third/2, next(third/2, w))
		for _, c := range []home{
			{api.OpAdd, one(1, 2), row(1 + u), [][]float64{{1 + u, 1 + u}, {1 + u, 1 + u}}},
			{api.OpSub, one(1, 2), row(neg0), [][]float64{{0, 0}, {0, 0}}},
			{api.OpSub, one(1, 2), row(3), [][]float64{{3, 3}, {-3, -3}}},
			{api.OpMul, one(0.5, -0.25), row(e), [][]float64{{-e, 0}, {0, e}}},
			{api.OpMul, one(2, 1), row(g / 2), [][]float64{{g / 2, g / 2}, {g, g}}},
			{api.OpMul, one(1+u, 1), row(1 + u), [][]float64{{1 + u, 1 + u}, {1 + 2*u, 1 + 3*u}}},
			{api.OpDiv, one(3, 3), row(1), [][]float64{thirds, {-thirds[1], -thirds[0]}}},
			{api.OpDiv, one(3, -3), row(1), [][]float64{{-thirds[1], -thirds[0]}, {-thirds[1], -thirds[0]}}},
			{api.OpDiv, one(0, -3), row(1), [][]float64{{-thirds[1], -thirds[0]}, {0, 0}}},
			{api.OpDiv, one(6, 2), row(e), [][]float64{{0, e}, {-2 * e, -e}}},
			{api.OpNeg, one(1), row(0), [][]float64{{0, 0}}},
			{api.OpRelu, one(-1), row(-3), [][]float64{{0, 0}}},
			{api.OpAbs, one(-1), row(-3), [][]float64{{3, 3}}},
			{api.OpExp, one(0), row(-3), [][]float64{{-3, -3}}},
			{api.OpLog, one(3), row(-1), [][]float64{{-thirds[1], -thirds[0]}}},
			{api.OpTanh, one(40), row(g), [][]float64{{0, 0}}},
			{api.OpSigmoid, one(0), row(-e), [][]float64{{-e, 0}}},
			{api.OpSoftplus, one(0), row(e), [][]float64{{0, e}}},
			{api.OpSqrt, one(9), row(1), [][]float64{sixths}},
			{api.OpProduct, one(0.5, -0.25), row(e), [][]float64{{-e, 0}, {0, e}}},
			{api.OpSum, [][]float64{{1, 2}}, row(3), [][]float64{{3, 3, 3, 3}}},
			{api.OpSumCols, [][]float64{{1, 2}}, row(3, neg0), [][]float64{{3, 3, 0, 0}}},
			{api.OpMean, [][]float64{{1, 2, 3}}, row(1), [][]float64{{thirds[0], thirds[1], thirds[0], thirds[1], thirds[0], thirds[1]}}},
			{api.OpMean, [][]float64{{1, 2}}, row(-e), [][]float64{{-e, 0, -e, 0}}},
			{api.OpGreatest, [][]float64{{1, 2}}, row(3), [][]float64{{0, 0, 3, 3}}},
			{api.OpSoftmax, [][]float64{{0, 0}}, row(e, 0), [][]float64{{0, e, -e, 0}}},
			{api.OpLogSoft, [][]float64{{900, 0}}, row(1, 3), [][]float64{{-3, -3, 3, 3}}},
			{api.OpLogSoft, [][]float64{{900, 0}}, row(1, u/4), [][]float64{{-u / 4, -u / 4, u / 4, u / 4}}},
		} {
			wantBack(t, w, c, nil)
		}
	}
	wantBack(t, 64, home{api.OpNarrow, one(0), row(1 + 0x1p-23), [][]float64{{1 + 0x1p-23, 1 + 0x1p-23}}}, nil)
	for _, c := range []home{
		{api.OpWide, one(0), row(1 + 0x1p-52), [][]float64{{1, 1 + 0x1p-23}}},
		{api.OpWide, one(0), row(-1 - 0x1p-52), [][]float64{{-1 - 0x1p-23, -1}}},
		{api.OpWide, one(0), row(-0x1p-200), [][]float64{{-0x1p-149, 0}}},
		{api.OpWide, one(0), row(math.MaxFloat32 + 0x1p90), [][]float64{{math.MaxFloat32, inf}}},
	} {
		wantBack(t, 32, c, nil)
	}
}

// TestP1302Infinite: infinite ends on the way back.
func TestP1302Infinite(t *testing.T) {
	for _, w := range widths {
		g := great[w]
		up, down := row(g, inf), row(-inf, -g)
		for _, c := range []home{
			{api.OpSub, one(1, 2), row(g), [][]float64{up, down}},
			{api.OpMul, one(0.5, -0.5), row(g), [][]float64{{-inf, -g / 2}, {g / 2, inf}}},
			{api.OpMul, one(0, 0.5), row(g), [][]float64{{g / 2, inf}, {0, 0}}},
			{api.OpDiv, one(1, 2), row(g), [][]float64{{g / 2, inf}, {-inf, -g / 4}}},
			{api.OpDiv, one(0, -2), row(g), [][]float64{{-inf, -g / 2}, {0, 0}}},
			{api.OpRelu, one(-1), row(g), [][]float64{{0, 0}}},
			{api.OpAbs, one(-1), row(g), [][]float64{down}},
			{api.OpTanh, one(40), row(g), [][]float64{{0, 0}}},
			{api.OpLog, one(2), row(-g), [][]float64{{-inf, -g / 2}}},
			{api.OpMean, [][]float64{{1, 2}}, row(g), [][]float64{{g / 2, inf, g / 2, inf}}},
			{api.OpGreatest, [][]float64{{1, 2}}, row(g), [][]float64{{0, 0, g, inf}}},
			{api.OpSoftmax, [][]float64{{0, 0}}, row(g, 0), [][]float64{{g / 4, inf, -inf, -g / 4}}},
			{api.OpSoftmax, [][]float64{{900, 0}}, row(g, g), [][]float64{{0, 0, 0, 0}}},
			{api.OpSoftmax, [][]float64{{7}}, row(g), [][]float64{{0, 0}}},
			{api.OpLogSoft, [][]float64{{7}}, row(g), [][]float64{{0, 0}}},
			{api.OpLogSoft, [][]float64{{900, 0}}, row(g, 0), [][]float64{{0, 0, 0, 0}}},
			{api.OpLogSoft, [][]float64{{900, 0}}, row(0, g), [][]float64{{-inf, -g, g, inf}}},
			{api.OpLogSoft, [][]float64{{900, 0}}, row(g, -g), [][]float64{{g, inf, -inf, -g}}},
		} {
			wantBack(t, w, c, func(seed api.Matrix) api.Matrix { // One more, with the sign of what is greatest.
				push := zeros(seed)
				for i, b := range seed.Bits {
					if f := float(b, w); math.Abs(f) == g {
						push.Bits[i] = mat(1, 1, w, math.Copysign(1, f)).Bits[0]
					}
				}
				return push
			})
		}
	}
}

// TestP1302Brackets: a quotient is a span of its own, rounded outward ahead of the sum: many of them are wider than their sum would be.
func TestP1302Brackets(t *testing.T) {
	for _, w := range widths {
		for n := 3; n < 40; n += 2 {
			glue := takes(api.OpGlueCols)
			for range n {
				glue.In = append(glue.In, 0)
			}
			made := tapeOf(input(0, 1, 1, w), glue, takes(api.OpMean, 1))
			one := mat(1, 1, w, 1)
			x := told{made, valuesOf(t, made, list(one), nil), list(one), nil, 2, one}
			lo := quot(1, float64(n), w)
			if whole(1).Cmp(times(whole(n), ratio(mat(1, 1, w, lo).Bits[0], w))) < 0 {
				lo = below(lo, w)
			}
			share := interval{realOf(mat(1, 1, w, lo).Bits[0], w), realOf(mat(1, 1, w, next(lo, w)).Bits[0], w)}
			sum := share.times(whole(n)).outward(w)
			spans, f := x.reverse()
			if f != (api.Fault{}) || spans[0][0] != sum || spans[1][0] != share.outward(w) || sum.Lo == sum.Hi {
				t.Fatalf("a mean of %d: %x %v, want %x", n, spans, f, sum)
			}
			ahead, _ := x.forward()
			if point := pointsOf(w, 1); ahead[2][0] != point[0] { // On the way ahead the sum is divided.
				t.Fatalf("a mean of %d: %x", n, ahead)
			}
			got, f := x.tell()
			if want := (api.Told{Forward: one.Bits[0], Reverse: got.Reverse, ForwardSpan: pointsOf(w, 1)[0], ReverseSpan: sum}); f != (api.Fault{}) || got != want {
				t.Fatalf("a mean of %d: %x %v", n, got, f)
			}
		}
	}
}

// TestP1302Hangs: nodes that the node does not hang on have the point 0, ahead of it and behind it, whatever they would bring.
func TestP1302Hangs(t *testing.T) {
	for _, w := range widths {
		made := tapeOf(input(0, 1, 2, w), takes(api.OpSqrt, 0), constant(mat(1, 1, w, 5)), param(0, 1, 1, w), takes(api.OpNeg, 0), takes(api.OpLog, 3), takes(api.OpSum, 4), takes(api.OpSqrt, 6), takes(api.OpSqrt, 0), takes(api.OpAdd, 6, 8))
		values := valuesOf(t, made, list(mat(1, 2, w, 0, 0)), list(mat(1, 1, w, 1)))
		x := told{tape: made, values: values, node: 6, seed: mat(1, 1, w, 3)}
		want := make([][]api.Span, len(values))
		for i, m := range values {
			want[i] = make([]api.Span, len(m.Bits))
		}
		want[6], want[4], want[0] = pointsOf(w, 3), pointsOf(w, 3, 3), pointsOf(w, -3, -3)
		if got, f := x.reverse(); f != (api.Fault{}) || !sameSpans(got, want) {
			t.Errorf("a sum: %x %v", got, f)
		}
		for node := range 4 {
			if node == 1 {
				continue
			}
			for i, m := range values {
				want[i] = make([]api.Span, len(m.Bits))
			}
			x.node, x.seed = node, ones(values[node])
			for k := range want[node] {
				want[node][k] = pointsOf(w, 1)[0]
			}
			if got, f := x.reverse(); f != (api.Fault{}) || !sameSpans(got, want) {
				t.Errorf("leaf %d: %x %v", node, got, f)
			}
		}
	}
}

// TestP1301Leaves: points of directions and of seeds, also of -0; the point 0 of constants.
func TestP1301Leaves(t *testing.T) {
	for _, w := range widths {
		e, g := tiny[w], great[w]
		l := row(0, neg0, 1, -1, e, -e, g, -g, 1+ulp[w])
		m := mat(3, 3, w, l...)
		made := tapeOf(param(0, 3, 3, w), constant(m), input(0, 3, 3, w))
		x := told{made, list(m, m, m), list(m), list(m), 1, m}
		points, none := pointsOf(w, l...), make([]api.Span, 9)
		if got, f := x.forward(); f != (api.Fault{}) || !sameSpans(got, [][]api.Span{points, none, points}) {
			t.Errorf("directions: %x %v", got, f)
		}
		if got, f := x.reverse(); f != (api.Fault{}) || !sameSpans(got, [][]api.Span{none, points, none}) {
			t.Errorf("a constant's seed: %x %v", got, f)
		}
		if got, f := x.tell(); f != (api.Fault{}) || got != (api.Told{}) {
			t.Errorf("a constant: %x %v", got, f)
		}
	}
}
