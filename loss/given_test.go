package loss_test

import (
	"math"
	"reflect"
	"slices"
	"testing"

	"pupil/api"
	"pupil/loss"
)

var widths = []int{32, 64}

// ends has ints about the least, the greatest, 0, the limits, and those whose products go round.
var ends = []int{math.MinInt, math.MinInt + 1, -1 << 32, -2, -1, 0, 1, 2, 3, 4, 7, 64, 1023, 1024, 4096, 4097, 1 << 32, 1<<62 + 1, math.MaxInt - 1, math.MaxInt}

func tapeOf(nodes ...api.Node) api.Tape { return api.Tape{Nodes: nodes} }

func input(number, rows, cols, width int) api.Node {
	return api.Node{Op: api.OpInput, A: number, Rows: rows, Cols: cols, Width: width}
}

func param(number, rows, cols, width int) api.Node {
	return api.Node{Op: api.OpParam, A: number, Rows: rows, Cols: cols, Width: width}
}

func constant(rows, cols, width int, bits ...int) api.Node {
	return api.Node{Op: api.OpConst, Rows: rows, Cols: cols, Width: width, Bits: bits}
}

func takes(op int, in ...int) api.Node { return api.Node{Op: op, In: in} }

// behind tells a tape with more nodes behind it.
func behind(t api.Tape, nodes ...api.Node) api.Tape {
	return api.Tape{Nodes: slices.Concat(t.Nodes, nodes)}
}

// leaves tells a tape of parameters of a width, from node 1 on. Ahead of them stands an input of the other width; inputs and the parameter 0 are missing.
func leaves(width int, shapes ...[2]int) api.Tape {
	t := tapeOf(input(3, 2, 2, 96-width))
	for i, s := range shapes {
		t.Nodes = append(t.Nodes, param(i+1, s[0], s[1], width))
	}
	return t
}

// padded tells a tape with as many nodes as are wanted.
func padded(t api.Tape, count int) api.Tape {
	t = cloned(t)
	for len(t.Nodes) < count {
		t.Nodes = append(t.Nodes, takes(api.OpNeg, 0))
	}
	return t
}

// cloned tells a tape with memory of its own.
func cloned(t api.Tape) api.Tape {
	t.Nodes = slices.Clone(t.Nodes)
	for i, n := range t.Nodes {
		t.Nodes[i].In, t.Nodes[i].Bits = slices.Clone(n.In), slices.Clone(n.Bits)
	}
	return t
}

// sameTape tells whether two tapes say the same; nil and an empty list do.
func sameTape(a, b api.Tape) bool {
	return slices.EqualFunc(a.Nodes, b.Nodes, func(x, y api.Node) bool {
		same := slices.Equal(x.In, y.In) && slices.Equal(x.Bits, y.Bits)
		x.In, x.Bits, y.In, y.Bits = nil, nil, nil, nil
		return same && reflect.DeepEqual(x, y)
	})
}

// call is one of the seven, with what it is handed beside the tape.
type call struct {
	name           string
	y, want, delta int
	nodes          []int
	kind, factor   int
}

func (c call) do(t api.Tape) (api.Tape, int, api.Errno) {
	switch c.name {
	case "Squared":
		return loss.Squared(t, c.y, c.want)
	case "Absolute":
		return loss.Absolute(t, c.y, c.want)
	case "Huber":
		return loss.Huber(t, c.y, c.want, c.delta)
	case "Cross":
		return loss.Cross(t, c.y, c.want)
	case "Logistic":
		return loss.Logistic(t, c.y, c.want)
	case "Hinge":
		return loss.Hinge(t, c.y, c.want)
	case "Penalty":
		return loss.Penalty(t, c.y, c.nodes, c.kind, c.factor)
	}
	panic("no such call: " + c.name)
}

// The calls, with what they are handed.
func squared(y, want int) call      { return call{name: "Squared", y: y, want: want} }
func absolute(y, want int) call     { return call{name: "Absolute", y: y, want: want} }
func huber(y, want, delta int) call { return call{name: "Huber", y: y, want: want, delta: delta} }
func cross(y, want int) call        { return call{name: "Cross", y: y, want: want} }
func logistic(y, want int) call     { return call{name: "Logistic", y: y, want: want} }
func hinge(y, want int) call        { return call{name: "Hinge", y: y, want: want} }
func penalty(y, kind, factor int, nodes ...int) call {
	return call{name: "Penalty", y: y, kind: kind, factor: factor, nodes: nodes}
}

// pairs has the six losses of two nodes.
func pairs(y, want, delta int) []call {
	return []call{squared(y, want), absolute(y, want), huber(y, want, delta), cross(y, want), logistic(y, want), hinge(y, want)}
}

// places tells how many numbers of nodes a call is handed.
func (c call) places() int {
	if c.name == "Penalty" {
		return 1 + len(c.nodes)
	}
	return 2
}

// withNode tells a call with another number for one of its nodes.
func (c call) withNode(at, node int) call {
	switch {
	case at == 0:
		c.y = node
	case c.name == "Penalty":
		c.nodes = slices.Clone(c.nodes)
		c.nodes[at-1] = node
	default:
		c.want = node
	}
	return c
}

// asked is a call and the tape that it is handed.
type asked struct {
	tape api.Tape
	call call
}

// Numbers as the bits of a binary64.
const (
	half  = 0x3FE0000000000000
	one   = 0x3FF0000000000000
	two   = 0x4000000000000000
	minus = -0x4010000000000000 // -1
)

// rights has calls that nothing refuses, of every kind.
func rights(width int) []asked {
	made := leaves(width, [2]int{1, 2}, [2]int{1, 2}, [2]int{3, 2}, [2]int{3, 2}, [2]int{1, 1}, [2]int{1, 1})
	reckoned := behind(made, takes(api.OpTurn, 3), takes(api.OpTurn, 4), takes(api.OpSum, 3))
	var l []asked
	for _, delta := range []int{one, half, 1} {
		l = append(l, asked{made, huber(3, 4, delta)})
	}
	for _, nodes := range [][2]int{{1, 2}, {2, 1}, {3, 4}, {5, 6}, {3, 3}} {
		for _, c := range pairs(nodes[0], nodes[1], two) {
			l = append(l, asked{made, c})
		}
	}
	for _, c := range pairs(7, 8, two) {
		l = append(l, asked{reckoned, c})
	}
	for kind := api.CostAbs; kind <= api.CostSquare; kind++ {
		l = append(l, asked{made, penalty(5, kind, half, 1)}, asked{made, penalty(6, kind, 0, 3, 3)}, asked{made, penalty(5, kind, minus, 5, 4, 1)},
			asked{reckoned, penalty(9, kind, 1, 9)}, asked{reckoned, penalty(9, kind, half, 7, 2, 3, 7, 1, 9)})
	}
	return l
}

// wantPut wants a call to put these nodes, and to tell the number of the last one.
func wantPut(t *testing.T, made api.Tape, c call, nodes ...api.Node) {
	t.Helper()
	want := behind(made, nodes...)
	if got, number, e := c.do(made); e != api.OK || number != len(want.Nodes)-1 || !sameTape(got, want) {
		t.Errorf("%v: %v, %d, %v; want %v", c, got, number, e, want)
	}
}

// wantError wants a call to be refused, with nothing beside the error.
func wantError(t *testing.T, made api.Tape, c call, want api.Errno) {
	t.Helper()
	if got, number, e := c.do(made); e != want || number != 0 || len(got.Nodes) != 0 {
		t.Errorf("%v behind %d nodes: %v, %d, %v; want %v", c, len(made.Nodes), got, number, e, want)
	}
}

// putBy tells the nodes that a call put.
func putBy(t *testing.T, made api.Tape, c call) []api.Node {
	t.Helper()
	got, _, e := c.do(made)
	if e != api.OK {
		t.Fatalf("%v: %v", c, e)
	}
	return got.Nodes[len(made.Nodes):]
}

// TestGiven: what the other tests are given has all seven calls, and none is refused.
func TestGiven(t *testing.T) {
	for _, width := range widths {
		seen := map[string]int{}
		for _, x := range rights(width) {
			seen[x.call.name]++
			if _, _, e := x.call.do(x.tape); e != api.OK {
				t.Errorf("%v: %v", x.call, e)
			}
		}
		if len(seen) != 7 {
			t.Errorf("%d calls", len(seen))
		}
	}
}
