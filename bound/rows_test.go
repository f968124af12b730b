package bound_test

import (
	"math"
	"math/rand"
	"slices"
	"testing"

	"pupil/api"
	"pupil/bits"
	"pupil/eval"
)

var (
	pairOps = []int{api.OpAdd, api.OpSub, api.OpMul, api.OpDiv}
	eachOps = []int{api.OpNeg, api.OpRelu, api.OpAbs, api.OpExp, api.OpLog, api.OpTanh, api.OpSigmoid, api.OpSqrt, api.OpSoftplus}
	manyOps = []int{api.OpSum, api.OpSumRows, api.OpSumCols, api.OpMean, api.OpGreatest, api.OpSoftmax, api.OpLogSoft}
)

// kind is a way to fill a matrix.
type kind func(r *rand.Rand, rows, cols, width int) api.Matrix

// wild has all finite floats, each as likely.
func wild(r *rand.Rand, rows, cols, width int) api.Matrix {
	m := api.Matrix{Rows: rows, Cols: cols, Width: width}
	for len(m.Bits) < rows*cols {
		if b := int(r.Uint64()) >> (64 - width) & (1<<width - 1); isFinite(b, width) {
			m.Bits = append(m.Bits, b)
		}
	}
	return m
}

// near has floats about 1, of both signs, with all their bits.
func near(r *rand.Rand, rows, cols, width int) api.Matrix {
	m := api.Matrix{Rows: rows, Cols: cols, Width: width}
	for range rows * cols {
		m.Bits = append(m.Bits, mat(1, 1, width, r.NormFloat64()).Bits[0])
	}
	return m
}

// steep has a few bits and powers from far apart, so that sums cancel and come half way between two floats.
func steep(r *rand.Rand, rows, cols, width int) api.Matrix {
	m := api.Matrix{Rows: rows, Cols: cols, Width: width}
	half := []int{12, 24, 25, 26, 53, 54, 55}
	for range rows * cols {
		f := 1 + float64(r.Intn(3))
		if r.Intn(2) == 0 {
			f = math.Ldexp(f, -half[r.Intn(len(half))])
		}
		if r.Intn(2) == 0 {
			f = -f
		}
		m.Bits = append(m.Bits, mat(1, 1, width, f).Bits[0])
	}
	return m
}

// low has floats below the normal ones, noughts of both signs among them.
func low(r *rand.Rand, rows, cols, width int) api.Matrix {
	m := api.Matrix{Rows: rows, Cols: cols, Width: width}
	for range rows * cols {
		b := r.Intn(9)
		if r.Intn(2) == 0 {
			b = bits.Neg(b, width)
		}
		m.Bits = append(m.Bits, b)
	}
	return m
}

// huge has the greatest floats, ones and noughts.
func huge(r *rand.Rand, rows, cols, width int) api.Matrix {
	m := api.Matrix{Rows: rows, Cols: cols, Width: width}
	for range rows * cols {
		f := []float64{great[width], great[width], great[width], 1, 0}[r.Intn(5)]
		if r.Intn(2) == 0 {
			f = -f
		}
		m.Bits = append(m.Bits, mat(1, 1, width, f).Bits[0])
	}
	return m
}

// small and minus have floats of both signs about 0, and floats below -1: most derivatives there are less than 1, so that what is greatest does not stop.
func small(r *rand.Rand, rows, cols, width int) api.Matrix {
	m := api.Matrix{Rows: rows, Cols: cols, Width: width}
	for range rows * cols {
		m.Bits = append(m.Bits, mat(1, 1, width, (r.Float64()-0.5)/4).Bits[0])
	}
	return m
}

func minus2(r *rand.Rand, rows, cols, width int) api.Matrix {
	m := api.Matrix{Rows: rows, Cols: cols, Width: width}
	for range rows * cols {
		m.Bits = append(m.Bits, mat(1, 1, width, -1-3*r.Float64()).Bits[0])
	}
	return m
}

var (
	kinds = []kind{wild, near, steep, low, some, huge}
	tame  = []kind{small, minus2, some}
)

// any tells one of the kinds.
func any(r *rand.Rand) kind { return kinds[r.Intn(len(kinds))] }

var (
	tiny  = map[int]float64{32: 0x1p-149, 64: 0x1p-1074}
	ulp   = map[int]float64{32: 0x1p-23, 64: 0x1p-52}
	great = map[int]float64{32: math.MaxFloat32, 64: math.MaxFloat64}
)

// blurred puts nodes behind a tape that have a node's values, but wider spans, on either way: the eleventh part of so many times as much (no float that is greatest has one) is added, and taken off again.
func blurred(t api.Tape, node, width int, times float64) (api.Tape, int) {
	n := len(t.Nodes)
	t = behind(t, constant(mat(1, 1, width, times)), constant(mat(1, 1, width, 11)),
		takes(api.OpMul, node, n), takes(api.OpDiv, n+2, n+1), takes(api.OpDiv, n+2, n+1), takes(api.OpSub, n+3, n+4), takes(api.OpAdd, node, n+5))
	return t, n + 6
}

// blur is how wide spans are made, of what an operation takes and of what comes of it.
type blur struct{ ahead, behind float64 }

var blurs = []blur{{0x1p20, 0x1p10}, {0x1p70, 0x1p60}, {0x1p60, 1}}

// alone is a tape of inputs, blurred, one node that takes them all, and that one blurred; the last two are told, and the last one's values.
func alone(op, a, b int, in []api.Matrix, wide blur) (t api.Tape, node, last int, values []api.Matrix, f api.Fault) {
	for i, m := range in {
		t.Nodes = append(t.Nodes, input(i, m.Rows, m.Cols, m.Width))
	}
	n := numbers(op, a, b)
	for i, m := range in {
		t, last = blurred(t, i, m.Width, wide.ahead)
		n.In = append(n.In, last)
	}
	node = len(t.Nodes)
	t = behind(t, n)
	width := in[0].Width
	if op == api.OpWide || op == api.OpNarrow {
		width = 96 - width
	}
	t, last = blurred(t, node, width, wide.behind)
	values, f = eval.Run(t, in, nil)
	return t, node, last, values, f
}

// seen counts what kinds of spans were held.
type seen struct{ done, points, wide, both, infinite, far int }

func (c *seen) count(spans []api.Span, width int) {
	for _, s := range spans {
		lo, hi := float(s.Lo, width), float(s.Hi, width)
		switch {
		case lo == hi:
			c.points++
		case math.IsInf(lo, 0) && math.IsInf(hi, 0):
			c.far++
		case math.IsInf(lo, 0) || math.IsInf(hi, 0):
			c.infinite++
		case lo < 0 && hi > 0:
			c.both++
		default:
			c.wide++
		}
	}
}

// held holds one operation's row of both tables against what the chapter says; nothing is told where a value, a tangent or an adjoint is not finite.
func (c *seen) held(t *testing.T, r *rand.Rand, op, a, b int, in []api.Matrix, along, back kind) {
	t.Helper()
	for _, wide := range []blur{{1, 1}, blurs[r.Intn(len(blurs))]} {
		made, node, last, values, f := alone(op, a, b, in, wide)
		if f != (api.Fault{}) {
			continue
		}
		x := told{tape: made, values: values, node: last}
		for _, m := range in {
			x.inputs = append(x.inputs, along(r, m.Rows, m.Cols, m.Width))
		}
		x.seed = back(r, values[last].Rows, values[last].Cols, values[last].Width)
		if !wantAll(t, "a row", x) {
			continue
		}
		c.done++
		spans, _ := x.forward()
		c.count(spans[node], values[node].Width)
		spans, _ = x.reverse()
		for i, m := range in {
			c.count(spans[i], m.Width)
		}
	}
	if t.Failed() {
		t.FailNow()
	}
}

// enough wants that each kind of span was held.
func (c *seen) enough(t *testing.T, op, width, least int) {
	t.Helper()
	if c.done < least || slices.Min([]int{c.points, c.wide, c.both, c.infinite + c.far}) < 3 {
		t.Errorf("operation %d, width %d: %+v are held", op, width, *c)
	}
}

// TestP1301Each: the rows of the operations on each element, of elements that they have a value of, both ways.
func TestP1301Each(t *testing.T) {
	t.Parallel()
	for _, width := range widths {
		for _, op := range eachOps {
			r := rand.New(rand.NewSource(int64(op)))
			var c seen
			for _, x := range kinds {
				for _, along := range kinds {
					c.held(t, r, op, 0, 0, list(x(r, 1, 2, width)), along, any(r))
				}
			}
			for range 5 {
				c.held(t, r, op, 0, 0, list(near(r, 2, 3, width)), near, near)
				for _, x := range tame {
					c.held(t, r, op, 0, 0, list(x(r, 1, 2, width)), huge, huge)
				}
			}
			c.enough(t, op, width, 12)
		}
	}
}

// TestP1301Pairs: the rows of the operations on two elements; divisors of both signs are among them.
func TestP1301Pairs(t *testing.T) {
	t.Parallel()
	for _, width := range widths {
		for _, op := range pairOps {
			r := rand.New(rand.NewSource(int64(op)))
			var c seen
			for _, x := range kinds {
				for _, u := range kinds {
					c.held(t, r, op, 0, 0, list(x(r, 1, 1, width), u(r, 1, 1, width)), any(r), any(r))
				}
			}
			for range 8 {
				for _, x := range tame {
					for _, u := range tame {
						c.held(t, r, op, 0, 0, list(x(r, 1, 1, width), u(r, 1, 1, width)), huge, huge)
					}
				}
			}
			c.enough(t, op, width, 60)
		}
	}
}

// TestP1301Stretched: what is stretched, on either side, takes the span of where it came from, and is brought terms from each element that it was stretched to.
func TestP1301Stretched(t *testing.T) {
	t.Parallel()
	shapes := [][2]int{{1, 1}, {1, 3}, {2, 1}, {2, 3}}
	for _, width := range widths {
		r := rand.New(rand.NewSource(7))
		for _, op := range pairOps {
			var c seen
			for _, a := range shapes {
				for _, b := range shapes {
					c.held(t, r, op, 0, 0, list(near(r, a[0], a[1], width), some(r, b[0], b[1], width)), near, near)
					c.held(t, r, op, 0, 0, list(near(r, a[0], a[1], width), some(r, b[0], b[1], width)), any(r), any(r))
					for _, u := range tame {
						c.held(t, r, op, 0, 0, list(small(r, a[0], a[1], width), u(r, b[0], b[1], width)), huge, huge)
					}
				}
			}
			c.enough(t, op, width, 50)
		}
	}
}

// TestP1301Twice: a node that takes one node at both places: terms of two places don't meet.
func TestP1301Twice(t *testing.T) {
	t.Parallel()
	for _, width := range widths {
		r := rand.New(rand.NewSource(8))
		done := 0
		for _, k := range kinds {
			for _, along := range kinds {
				in := k(r, 2, 2, width)
				t0, from := blurred(tapeOf(input(0, 2, 2, width)), 0, width, 0x1p30)
				for _, n := range []api.Node{takes(api.OpAdd, from, from), takes(api.OpSub, from, from), takes(api.OpMul, from, from), takes(api.OpDiv, from, from), takes(api.OpProduct, from, from), takes(api.OpGlueCols, from, from, from), takes(api.OpGlueRows, from, from)} {
					made := behind(t0, n)
					values, f := eval.Run(made, list(in), nil)
					if f != (api.Fault{}) {
						continue
					}
					last := len(values) - 1
					if wantAll(t, "twice", told{made, values, list(along(r, 2, 2, width)), nil, last, near(r, values[last].Rows, values[last].Cols, width)}) {
						done++
					}
				}
			}
		}
		if done < 50 {
			t.Errorf("width %d: %d are held", width, done)
		}
		made, from := blurred(tapeOf(input(0, 1, 1, width)), 0, width, 1)
		made = behind(made, takes(api.OpSub, from, from))
		values := valuesOf(t, made, list(mat(1, 1, width, 1)), nil)
		spans, f := told{tape: made, values: values, inputs: list(mat(1, 1, width, 1))}.forward()
		if last := len(values) - 1; f != (api.Fault{}) || float(spans[last][0].Lo, width) >= 0 || float(spans[last][0].Hi, width) <= 0 {
			t.Errorf("the difference of a node with itself: %x %v", spans, f)
		}
	}
}

// TestP1301Product: rows by columns.
func TestP1301Product(t *testing.T) {
	t.Parallel()
	for _, width := range widths {
		r := rand.New(rand.NewSource(9))
		var c seen
		for _, s := range [][3]int{{1, 1, 1}, {1, 3, 1}, {3, 1, 1}, {1, 1, 3}, {3, 1, 2}, {2, 3, 4}, {4, 3, 2}, {9, 2, 1}} {
			for _, x := range kinds {
				c.held(t, r, api.OpProduct, 0, 0, list(x(r, s[0], s[1], width), near(r, s[1], s[2], width)), near, steep)
				c.held(t, r, api.OpProduct, 0, 0, list(near(r, s[0], s[1], width), x(r, s[1], s[2], width)), any(r), any(r))
				c.held(t, r, api.OpProduct, 0, 0, list(small(r, s[0], s[1], width), small(r, s[1], s[2], width)), huge, huge)
			}
		}
		c.enough(t, api.OpProduct, width, 100)
	}
}

// TestP1301Many: sums, means, the greatest, softmax and its logarithm.
func TestP1301Many(t *testing.T) {
	t.Parallel()
	for _, width := range widths {
		for _, op := range manyOps {
			r := rand.New(rand.NewSource(int64(op)))
			var c seen
			for _, s := range [][2]int{{1, 1}, {1, 2}, {5, 1}, {1, 5}, {2, 3}} {
				for _, x := range kinds {
					c.held(t, r, op, 0, 0, list(x(r, s[0], s[1], width)), near, any(r))
				}
				for _, x := range tame {
					c.held(t, r, op, 0, 0, list(x(r, s[0], s[1], width)), huge, huge)
				}
			}
			c.enough(t, op, width, 40)
		}
	}
}

// TestP1301Moves: what only goes elsewhere, once, several times or not at all, and what takes another width.
func TestP1301Moves(t *testing.T) {
	t.Parallel()
	for _, width := range widths {
		r := rand.New(rand.NewSource(10))
		six, row := list(near(r, 2, 3, width)), list(near(r, 1, 6, width))
		for _, m := range []struct {
			op, a, b int
			in       []api.Matrix
		}{
			{api.OpTurn, 0, 0, six}, {api.OpForm, 6, 1, six}, {api.OpForm, 3, 2, six}, {api.OpForm, 1, 6, six},
			{api.OpCutCols, 1, 3, six}, {api.OpCutCols, 0, 3, six}, {api.OpCutRows, 1, 2, six}, {api.OpCutRows, 0, 1, six},
			{api.OpGlueCols, 0, 0, six}, {api.OpGlueCols, 0, 0, list(six[0], near(r, 2, 1, width), six[0])},
			{api.OpGlueRows, 0, 0, six}, {api.OpGlueRows, 0, 0, list(near(r, 3, 3, width), six[0])},
			{api.OpWindow, 2, 1, row}, {api.OpWindow, 3, 3, row}, {api.OpWindow, 4, 2, row}, {api.OpWindow, 6, 9, row}, {api.OpWindow, 2, 4, row},
		} {
			var c seen
			for _, along := range kinds {
				c.held(t, r, m.op, m.a, m.b, m.in, along, near)
				c.held(t, r, m.op, m.a, m.b, m.in, near, any(r))
				c.held(t, r, m.op, m.a, m.b, m.in, huge, huge)
			}
			c.enough(t, m.op, width, 8)
		}
		var c seen
		for _, x := range kinds {
			for _, along := range kinds {
				c.held(t, r, other(width), 0, 0, list(x(r, 1, 3, width)), along, any(r))
			}
			for range 3 {
				c.held(t, r, other(width), 0, 0, list(near(r, 1, 3, width)), huge, near)
				c.held(t, r, other(width), 0, 0, list(near(r, 1, 3, width)), near, huge)
			}
		}
		c.enough(t, other(width), width, 20)
	}
}
