package bound_test

import (
	"math"
	"math/rand"
	"slices"
	"testing"

	"pupil/api"
	"pupil/bits"
	"pupil/bound"
	"pupil/eval"
	"pupil/tape"
)

var (
	inf  = math.Inf(1)
	nan  = math.NaN()
	neg0 = math.Copysign(0, -1)
	good = mat(1, 2, 64, 1, 2)
	tall = mat(2, 1, 64, 0.5, -0.25)
)

var (
	widths   = []int{32, 64}
	noWidths = []int{0, 1, 16, 31, 33, 63, 65, 128, -32, -64, 1<<32 | 64, math.MinInt, math.MaxInt}
)

// ends has ints about the least, the greatest, 0, the limits, and those whose products go round.
var ends = []int{math.MinInt, math.MinInt + 1, -1 << 32, -1, 0, 1, 2, 3, 7, 8, 9, 63, 64, 65, 1023, 1024, 1025, 4096, 4097, 1 << 32, 1<<62 + 1, math.MaxInt - 1, math.MaxInt}

func tapeOf(nodes ...api.Node) api.Tape { return api.Tape{Nodes: nodes} }

func input(number, rows, cols, width int) api.Node {
	return api.Node{Op: api.OpInput, A: number, Rows: rows, Cols: cols, Width: width}
}

func param(number, rows, cols, width int) api.Node {
	return api.Node{Op: api.OpParam, A: number, Rows: rows, Cols: cols, Width: width}
}

func takes(op int, in ...int) api.Node { return api.Node{Op: op, In: in} }

func numbers(op, a, b int, in ...int) api.Node { return api.Node{Op: op, A: a, B: b, In: in} }

// constant is a node that is a matrix.
func constant(m api.Matrix) api.Node {
	return api.Node{Op: api.OpConst, Rows: m.Rows, Cols: m.Cols, Width: m.Width, Bits: m.Bits}
}

// mat tells a matrix of a width with these values.
func mat(rows, cols, width int, values ...float64) api.Matrix {
	m := api.Matrix{Rows: rows, Cols: cols, Width: width}
	for _, f := range values {
		m.Bits = append(m.Bits, bits.Convert(int(math.Float64bits(f)), 64, width))
	}
	return m
}

func list(l ...api.Matrix) []api.Matrix { return l }

// none and infinite tell the bits of what is no number, and of an infinity.
func none(width int) int {
	if width == 32 {
		return api.NaN32
	}
	return api.NaN
}

func infinite(width int) int {
	if width == 32 {
		return api.Inf32
	}
	return api.Inf
}

// net is the chapter's: x by w, then tanh.
func net() api.Tape {
	return tapeOf(input(0, 1, 2, 64), param(0, 2, 1, 64), takes(api.OpProduct, 0, 1), takes(api.OpTanh, 2))
}

// behind tells a tape with more nodes behind it.
func behind(t api.Tape, nodes ...api.Node) api.Tape {
	return api.Tape{Nodes: slices.Concat(t.Nodes, nodes)}
}

// other tells the operation that takes a width to the other one.
func other(width int) int {
	if width == 32 {
		return api.OpWide
	}
	return api.OpNarrow
}

// every is a tape that has each operation at least once, in a width; its inputs and parameters don't stand in the order of their numbers.
func every(width int) api.Tape {
	return tapeOf(
		input(1, 2, 3, width), param(1, 3, 2, width), input(0, 1, 6, width), param(0, 1, 1, width), constant(mat(2, 1, width, 0.25, 3)),
		takes(api.OpAdd, 0, 4), takes(api.OpSub, 3, 0), takes(api.OpMul, 4, 2), takes(api.OpDiv, 2, 3),
		takes(api.OpNeg, 7), takes(api.OpRelu, 6), takes(api.OpAbs, 6), takes(api.OpExp, 3), takes(api.OpLog, 4), takes(api.OpTanh, 2),
		takes(api.OpSigmoid, 0), takes(api.OpSqrt, 11), takes(api.OpSoftplus, 0), takes(api.OpProduct, 1, 0), takes(api.OpTurn, 2),
		numbers(api.OpForm, 3, 2, 2), numbers(api.OpCutCols, 1, 3, 0), numbers(api.OpCutRows, 0, 2, 1), takes(api.OpGlueCols, 0, 4, 0),
		takes(api.OpGlueRows, 1, 20), takes(api.OpGlueRows, 3), numbers(api.OpWindow, 3, 2, 2), takes(api.OpSum, 0), takes(api.OpSumRows, 0),
		takes(api.OpSumCols, 0), takes(api.OpMean, 1), takes(api.OpGreatest, 1), takes(api.OpSoftmax, 0), takes(api.OpLogSoft, 1),
		takes(other(width), 0), takes(other(96-width), 34))
}

// ops tells all operations of api.
func ops() []int {
	var l []int
	for _, n := range slices.Concat(every(32).Nodes, every(64).Nodes) {
		if !slices.Contains(l, n.Op) {
			l = append(l, n.Op)
		}
	}
	return l
}

// long makes a right tape of so many nodes.
func long(count int) api.Tape {
	t := tapeOf(input(0, 1, 1, 64))
	for i := 1; i < count; i++ {
		t.Nodes = append(t.Nodes, takes(api.OpNeg, i-1))
	}
	return t
}

// grown makes a right tape of so many nodes, mixed: nodes of all operations behind a few leaves, and some leaves among them.
func grown(r *rand.Rand, count int) api.Tape {
	inputs, params := r.Perm(1+r.Intn(api.MaxInputs)), r.Perm(r.Intn(5))
	all := ops()
	var t api.Tape
	for len(t.Nodes) < count || len(inputs)+len(params) > 0 {
		n := takes(all[r.Intn(len(all))])
		switch rows, cols, width := 1+r.Intn(3), 1+r.Intn(3), widths[r.Intn(2)]; {
		case len(inputs) > 0 && r.Intn(4) == 0:
			n, inputs = input(inputs[0], rows, cols, width), inputs[1:]
		case len(params) > 0 && r.Intn(4) == 0:
			n, params = param(params[0], rows, cols, width), params[1:]
		case n.Op == api.OpConst:
			n = constant(some(r, rows, cols, width))
		case n.Op < api.OpAdd || len(t.Nodes) == 0:
			continue
		default:
			for range 1 + r.Intn(3) {
				n.In = append(n.In, r.Intn(len(t.Nodes)))
			}
			if n.Op >= api.OpForm && n.Op <= api.OpWindow && n.Op != api.OpGlueCols && n.Op != api.OpGlueRows {
				n.A, n.B = r.Intn(4), r.Intn(4)
			}
		}
		if _, _, e := tape.Put(t, n); e == api.OK {
			t.Nodes = append(t.Nodes, n)
		}
	}
	return t
}

// some tells a matrix of small numbers, most of them above 0.
func some(r *rand.Rand, rows, cols, width int) api.Matrix {
	m := api.Matrix{Rows: rows, Cols: cols, Width: width}
	for range rows * cols {
		f := 1 + float64(r.Intn(8))/4
		switch r.Intn(30) {
		case 0:
			f = -f
		case 1:
			f = 0
		case 2:
			f = math.Copysign(0, -1)
		case 3:
			f = 60 * f
		}
		m.Bits = append(m.Bits, mat(1, 1, width, f).Bits[0])
	}
	return m
}

// fill tells matrices for the inputs and for the parameters of a right tape.
func fill(r *rand.Rand, t api.Tape) (inputs, params []api.Matrix) {
	inputs, params = make([]api.Matrix, count(t, api.OpInput)), make([]api.Matrix, count(t, api.OpParam))
	for _, n := range t.Nodes {
		switch n.Op {
		case api.OpInput:
			inputs[n.A] = some(r, n.Rows, n.Cols, n.Width)
		case api.OpParam:
			params[n.A] = some(r, n.Rows, n.Cols, n.Width)
		}
	}
	return inputs, params
}

// count tells how many nodes have an operation.
func count(t api.Tape, op int) int {
	c := 0
	for _, n := range t.Nodes {
		if n.Op == op {
			c++
		}
	}
	return c
}

// cloned tells a tape with memory of its own.
func cloned(t api.Tape) api.Tape {
	t.Nodes = slices.Clone(t.Nodes)
	for i, n := range t.Nodes {
		t.Nodes[i].In, t.Nodes[i].Bits = slices.Clone(n.In), slices.Clone(n.Bits)
	}
	return t
}

// copies tells matrices with memory of their own.
func copies(l []api.Matrix) []api.Matrix {
	l = slices.Clone(l)
	for i, m := range l {
		l[i].Bits = slices.Clone(m.Bits)
	}
	return l
}

// told is what Tell is given: a tape with its values, a direction, a node and a seed. Forward and Reverse are given some of it.
type told struct {
	tape                   api.Tape
	values, inputs, params []api.Matrix
	node                   int
	seed                   api.Matrix
}

func (x told) forward() ([][]api.Span, api.Fault) {
	return bound.Forward(x.tape, x.values, x.inputs, x.params)
}

func (x told) reverse() ([][]api.Span, api.Fault) {
	return bound.Reverse(x.tape, x.values, x.node, x.seed)
}

func (x told) tell() (api.Told, api.Fault) {
	return bound.Tell(x.tape, x.values, x.inputs, x.params, x.node, x.seed)
}

// sameSpans tells whether two lists of lists of spans say the same, to the bit.
func sameSpans(a, b [][]api.Span) bool { return slices.EqualFunc(a, b, slices.Equal[[]api.Span]) }

// spansOf tells the spans from each of some numbers to the next one.
func spansOf(width int, l ...float64) []api.Span {
	m := mat(1, len(l), width, l...)
	var spans []api.Span
	for i := 0; i < len(l); i += 2 {
		spans = append(spans, api.Span{Lo: m.Bits[i], Hi: m.Bits[i+1]})
	}
	return spans
}

// pointsOf tells the points of some numbers.
func pointsOf(width int, l ...float64) []api.Span {
	var all []float64
	for _, f := range l {
		all = append(all, f+0, f+0)
	}
	return spansOf(width, all...)
}

// valuesOf reckons a tape that does not stop.
func valuesOf(t *testing.T, made api.Tape, inputs, params []api.Matrix) []api.Matrix {
	t.Helper()
	values, f := eval.Run(made, inputs, params)
	if f != (api.Fault{}) {
		t.Fatalf("eval.Run: %v", f)
	}
	return values
}

// isFinite tells whether bits are those of a finite float.
func isFinite(x, width int) bool {
	class := bits.Class(x, width)
	return class != api.IsNaN && class != api.IsInfinite
}

// ofEvery tells matrices with which a tape of every operation is reckoned to its end.
func ofEvery(width int) (inputs, params []api.Matrix) {
	return list(mat(1, 6, width, 1, -2, 0.5, 3, -0.125, 4), mat(2, 3, width, 1, 2, 3, -4, 5, 0.75)),
		list(mat(1, 1, width, 1.5), mat(3, 2, width, 1, 0.5, -2, 3, 0.25, -1))
}

// wrong has matrices that don't fit a node of 1 by 2 (2 by 1, if turned), width 64, each with its error.
func wrong(rows, cols int) []struct {
	m api.Matrix
	e api.Errno
} {
	l := []struct {
		m api.Matrix
		e api.Errno
	}{
		{api.Matrix{}, api.ErrWidth},
		{api.Matrix{Rows: rows, Cols: cols, Width: 64}, api.ErrShape},
		{api.Matrix{Rows: rows, Cols: cols, Width: 64, Bits: []int{1}}, api.ErrShape},
		{api.Matrix{Rows: rows, Cols: cols, Width: 64, Bits: []int{1, 2, 3}}, api.ErrShape},
		{api.Matrix{Rows: rows, Cols: cols, Width: 32, Bits: []int{1, -1}}, api.ErrBits},
		{api.Matrix{Rows: rows, Cols: cols, Width: 32, Bits: []int{1 << 32, 0}}, api.ErrBits},
		{api.Matrix{Rows: 1, Cols: 4097, Width: 32, Bits: make([]int, 4097)}, api.ErrLong},
		{mat(rows, cols, 32, 1, 2), api.ErrWidth},
		{mat(cols, rows, 32, 1, 2), api.ErrWidth},
		{mat(rows, cols, 32, nan, inf), api.ErrWidth},
		{mat(cols, rows, 64, 1, 2), api.ErrShape},
		{mat(cols, rows, 64, nan, inf), api.ErrShape},
		{mat(1, 1, 64, 1), api.ErrShape},
		{mat(rows+1, cols, 64, make([]float64, (rows+1)*cols)...), api.ErrShape},
		{mat(rows, cols+1, 64, make([]float64, rows*(cols+1))...), api.ErrShape},
		{mat(2, 2, 64, 1, 2, 3, 4), api.ErrShape},
	}
	for _, n := range append(noWidths, 0) {
		l = append(l, struct {
			m api.Matrix
			e api.Errno
		}{api.Matrix{Rows: rows, Cols: cols, Width: n, Bits: []int{1, 2}}, api.ErrWidth})
	}
	for _, n := range ends {
		if n != rows {
			e := api.ErrShape
			if n >= 1 && n > 4096/cols {
				e = api.ErrLong
			}
			l = append(l, struct {
				m api.Matrix
				e api.Errno
			}{api.Matrix{Rows: n, Cols: cols, Width: 64, Bits: []int{1, 2}}, e})
		}
	}
	return l
}

// refused has tapes that are not right, each with its fault.
func refused() []struct {
	tape  api.Tape
	fault api.Fault
} {
	return []struct {
		tape  api.Tape
		fault api.Fault
	}{
		{behind(net(), takes(api.OpNeg, 4)), api.Fault{Err: api.ErrNode, Node: 4}},
		{behind(net(), takes(api.OpAdd, 0, -1)), api.Fault{Err: api.ErrNode, Node: 4, At: 1}},
		{behind(net(), takes(api.OpNeg)), api.Fault{Err: api.ErrArg, Node: 4}},
		{behind(net(), takes(99, 0)), api.Fault{Err: api.ErrOp, Node: 4}},
		{behind(net(), takes(api.OpProduct, 0, 0)), api.Fault{Err: api.ErrShape, Node: 4}},
		{behind(net(), takes(api.OpWide, 0)), api.Fault{Err: api.ErrWidth, Node: 4}},
		{behind(net(), input(2, 1, 1, 64)), api.Fault{Err: api.ErrInput, Node: 5, At: 1}},
		{behind(net(), param(2, 1, 1, 64)), api.Fault{Err: api.ErrParam, Node: 5, At: 1}},
		{behind(net(), input(0, 1, 1, 64)), api.Fault{Err: api.ErrInput, Node: 4}},
		{behind(net(), constant(mat(1, 2, 64, 0, math.Inf(1)))), api.Fault{Err: api.ErrInf, Node: 4, At: 1}},
		{behind(net(), constant(mat(1, 2, 64, math.NaN(), 0))), api.Fault{Err: api.ErrNaN, Node: 4}},
		{behind(net(), constant(mat(2, 2, 64, 0))), api.Fault{Err: api.ErrShape, Node: 4}},
		{tapeOf(input(1, 1, 1, 64)), api.Fault{Err: api.ErrInput, Node: 1}},
		{tapeOf(api.Node{}), api.Fault{Err: api.ErrOp}},
		{long(api.MaxNodes + 1), api.Fault{Err: api.ErrLong, Node: api.MaxNodes}},
	}
}
