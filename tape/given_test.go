package tape_test

import (
	"math"
	"math/rand"
	"reflect"
	"slices"
	"testing"

	"pupil/api"
)

var (
	widths   = []int{32, 64}
	noWidths = []int{0, 1, 16, 31, 33, 63, 65, 128, -32, -64, 1<<32 | 64, math.MinInt, math.MaxInt}
)

// ends has ints about the least, the greatest, 0, the limits, and those whose products go round.
var ends = []int{math.MinInt, math.MinInt + 1, -1 << 32, -1, 0, 1, 2, 3, 7, 8, 9, 63, 64, 65, 1023, 1024, 1025, 4096, 4097, 1 << 32, 1<<62 + 1, math.MaxInt - 1, math.MaxInt}

func tapeOf(nodes ...api.Node) api.Tape { return api.Tape{Nodes: nodes} }

func input(number, rows, cols, width int) api.Node {
	return api.Node{Op: api.OpInput, A: number, Rows: rows, Cols: cols, Width: width}
}

func param(number, rows, cols, width int) api.Node {
	return api.Node{Op: api.OpParam, A: number, Rows: rows, Cols: cols, Width: width}
}

func constant(rows, cols, width int, bits ...int) api.Node {
	return api.Node{Op: api.OpConst, Rows: rows, Cols: cols, Width: width, Bits: bits}
}

func takes(op int, in ...int) api.Node { return api.Node{Op: op, In: in} }

func numbers(op, a, b int, in ...int) api.Node { return api.Node{Op: op, A: a, B: b, In: in} }

// net is the chapter's: x by w, then tanh.
func net() api.Tape {
	return tapeOf(input(0, 1, 2, 64), param(0, 2, 1, 64), takes(api.OpProduct, 0, 1), takes(api.OpTanh, 2))
}

// behind tells a tape with more nodes behind it.
func behind(t api.Tape, nodes ...api.Node) api.Tape {
	return api.Tape{Nodes: slices.Concat(t.Nodes, nodes)}
}

// wide tells an operation that takes a width to the other one.
func wide(width int) int {
	if width == 32 {
		return api.OpWide
	}
	return api.OpNarrow
}

// shaped is a node, and the shape that it has.
type shaped struct {
	node api.Node
	want api.Shape
}

// every has each operation at least once, in a width.
func every(width int) []shaped {
	other := 96 - width
	s := func(rows, cols int) api.Shape { return api.Shape{Rows: rows, Cols: cols, Width: width} }
	return []shaped{
		{input(1, 2, 3, width), s(2, 3)},
		{param(0, 3, 2, width), s(3, 2)},
		{input(0, 1, 6, width), s(1, 6)},
		{param(1, 1, 1, width), s(1, 1)},
		{constant(2, 1, width, 0, 1), s(2, 1)},
		{takes(api.OpAdd, 0, 4), s(2, 3)},
		{takes(api.OpSub, 3, 0), s(2, 3)},
		{takes(api.OpMul, 4, 2), s(2, 6)},
		{takes(api.OpDiv, 2, 2), s(1, 6)},
		{takes(api.OpNeg, 7), s(2, 6)},
		{takes(api.OpRelu, 0), s(2, 3)},
		{takes(api.OpAbs, 1), s(3, 2)},
		{takes(api.OpExp, 3), s(1, 1)},
		{takes(api.OpLog, 4), s(2, 1)},
		{takes(api.OpTanh, 2), s(1, 6)},
		{takes(api.OpSigmoid, 0), s(2, 3)},
		{takes(api.OpSqrt, 1), s(3, 2)},
		{takes(api.OpSoftplus, 0), s(2, 3)},
		{takes(api.OpProduct, 1, 0), s(3, 3)},
		{takes(api.OpTurn, 2), s(6, 1)},
		{numbers(api.OpForm, 3, 2, 2), s(3, 2)},
		{numbers(api.OpCutCols, 1, 3, 0), s(2, 2)},
		{numbers(api.OpCutRows, 0, 2, 1), s(2, 2)},
		{takes(api.OpGlueCols, 0, 4, 0), s(2, 7)},
		{takes(api.OpGlueRows, 1, 20), s(6, 2)},
		{takes(api.OpGlueRows, 3), s(1, 1)},
		{numbers(api.OpWindow, 3, 2, 2), s(2, 3)},
		{takes(api.OpSum, 0), s(1, 1)},
		{takes(api.OpSumRows, 0), s(2, 1)},
		{takes(api.OpSumCols, 0), s(1, 3)},
		{takes(api.OpMean, 1), s(1, 1)},
		{takes(api.OpGreatest, 1), s(3, 1)},
		{takes(api.OpSoftmax, 0), s(2, 3)},
		{takes(api.OpLogSoft, 1), s(3, 2)},
		{takes(wide(width), 0), api.Shape{Rows: 2, Cols: 3, Width: other}},
		{takes(wide(other), 34), s(2, 3)},
	}
}

// all tells the tape of these, and the shapes that are wanted.
func all(list []shaped) (api.Tape, []api.Shape) {
	var t api.Tape
	var shapes []api.Shape
	for _, x := range list {
		t.Nodes, shapes = append(t.Nodes, x.node), append(shapes, x.want)
	}
	return t, shapes
}

// ops tells all operations of api.
func ops() []int {
	var list []int
	for _, x := range append(every(32), every(64)...) {
		if !slices.Contains(list, x.node.Op) {
			list = append(list, x.node.Op)
		}
	}
	return list
}

// long makes a right tape of so many nodes.
func long(count int) api.Tape {
	t := tapeOf(input(0, 1, 1, 64))
	for i := 1; i < count; i++ {
		t.Nodes = append(t.Nodes, takes(api.OpNeg, i-1))
	}
	return t
}

// grown makes a right tape of so many nodes, mixed by a seed: nodes of all operations behind a few leaves, and some leaves among them.
func grown(seed int64, count int) api.Tape {
	r := rand.New(rand.NewSource(seed))
	inputs, params := r.Perm(1+r.Intn(api.MaxInputs)), r.Perm(r.Intn(5))
	all := ops()
	var t api.Tape
	var shapes []api.Shape
	for len(t.Nodes) < count || len(inputs)+len(params) > 0 {
		n := takes(all[r.Intn(len(all))])
		switch rows, cols, width := 1+r.Intn(3), 1+r.Intn(3), widths[r.Intn(2)]; {
		case len(inputs) > 0 && r.Intn(4) == 0:
			n, inputs = input(inputs[0], rows, cols, width), inputs[1:]
		case len(params) > 0 && r.Intn(4) == 0:
			n, params = param(params[0], rows, cols, width), params[1:]
		case n.Op == api.OpConst:
			n = constant(rows, cols, width, slices.Repeat([]int{r.Intn(1 << 29)}, rows*cols)...)
		case n.Op < api.OpAdd || len(t.Nodes) == 0:
			continue
		default:
			rule, _ := ruleOf(n.Op)
			if rule.takes == -1 {
				rule.takes = 1 + r.Intn(3)
			}
			for range rule.takes {
				n.In = append(n.In, r.Intn(len(t.Nodes)))
			}
			if rule.numbers {
				n.A, n.B = r.Intn(4), r.Intn(4)
			}
		}
		if e, _, s := nodeOf(t.Nodes, shapes, n); e == api.OK {
			t.Nodes, shapes = append(t.Nodes, n), append(shapes, s)
		}
	}
	return t
}

// spoilt tells a tape with some fields of its nodes turned.
func spoilt(t api.Tape, r *rand.Rand) api.Tape {
	t = cloned(t)
	any := func() int {
		if r.Intn(2) == 0 {
			return r.Intn(len(t.Nodes)+3) - 1
		}
		return ends[r.Intn(len(ends))]
	}
	for range 1 + r.Intn(3) {
		n := &t.Nodes[r.Intn(len(t.Nodes))]
		switch r.Intn(9) {
		case 0:
			n.Op = append(ops(), ends...)[r.Intn(len(ends)+33)]
		case 1:
			n.A = any()
		case 2:
			n.B = any()
		case 3:
			n.Rows = any()
		case 4:
			n.Cols = any()
		case 5:
			n.Width = append(noWidths, 32, 64)[r.Intn(len(noWidths)+2)]
		case 6:
			n.In = append(n.In, any())
		case 7:
			n.Bits = append(n.Bits, any())
		case 8:
			if len(n.In) > 0 {
				n.In[r.Intn(len(n.In))] = any()
			}
			if len(n.Bits) > 0 {
				n.Bits[r.Intn(len(n.Bits))] = []int{api.Inf, api.Inf32, api.NaN, api.NaN32, -1, 1 << 31}[r.Intn(6)]
			}
		}
	}
	return t
}

// cloned tells a tape with memory of its own.
func cloned(t api.Tape) api.Tape {
	t.Nodes = slices.Clone(t.Nodes)
	for i, n := range t.Nodes {
		t.Nodes[i].In, t.Nodes[i].Bits = slices.Clone(n.In), slices.Clone(n.Bits)
	}
	return t
}

// sameTape tells whether two tapes say the same; nil and an empty list do.
func sameTape(a, b api.Tape) bool {
	return slices.EqualFunc(a.Nodes, b.Nodes, func(x, y api.Node) bool {
		same := slices.Equal(x.In, y.In) && slices.Equal(x.Bits, y.Bits)
		x.In, x.Bits, y.In, y.Bits = nil, nil, nil, nil
		return same && reflect.DeepEqual(x, y)
	})
}

// TestGiven: what the other tests are given has all operations, and goes where it should.
func TestGiven(t *testing.T) {
	if len(ops()) != 33 {
		t.Errorf("%d operations", len(ops()))
	}
	seen := map[int]int{}
	for seed := range int64(40) {
		for _, n := range grown(seed, 60).Nodes {
			seen[n.Op]++
		}
	}
	for _, op := range ops() {
		if seen[op] == 0 {
			t.Errorf("operation %d is in no grown tape", op)
		}
	}
}
