package block_test

import (
	"math"
	"reflect"
	"slices"
	"testing"

	"pupil/api"
	"pupil/block"
)

var widths = []int{32, 64}

// ends has ints about the least, the greatest, 0, the limits, and those whose products go round.
var ends = []int{math.MinInt, math.MinInt + 1, -1 << 32, -2, -1, 0, 1, 2, 3, 4, 7, 64, 1023, 1024, 4096, 4097, 1 << 32, 1<<62 + 1, math.MaxInt - 1, math.MaxInt}

func tapeOf(nodes ...api.Node) api.Tape { return api.Tape{Nodes: nodes} }

func input(number, rows, cols, width int) api.Node {
	return api.Node{Op: api.OpInput, A: number, Rows: rows, Cols: cols, Width: width}
}

func param(number, rows, cols, width int) api.Node {
	return api.Node{Op: api.OpParam, A: number, Rows: rows, Cols: cols, Width: width}
}

func constant(rows, cols, width int, bits ...int) api.Node {
	return api.Node{Op: api.OpConst, Rows: rows, Cols: cols, Width: width, Bits: bits}
}

func takes(op int, in ...int) api.Node { return api.Node{Op: op, In: in} }

func numbers(op, a, b int, in ...int) api.Node { return api.Node{Op: op, A: a, B: b, In: in} }

func mat(rows, cols, width int, bits ...int) api.Matrix {
	return api.Matrix{Rows: rows, Cols: cols, Width: width, Bits: bits}
}

// behind tells a tape with more nodes behind it.
func behind(t api.Tape, nodes ...api.Node) api.Tape {
	return api.Tape{Nodes: slices.Concat(t.Nodes, nodes)}
}

// leaves tells a tape of parameters of a width, from node 1 on. Ahead of them stands an input of the other width; inputs and the parameter 0 are missing.
func leaves(width int, shapes ...[2]int) api.Tape {
	t := tapeOf(input(3, 2, 2, 96-width))
	for i, s := range shapes {
		t.Nodes = append(t.Nodes, param(i+1, s[0], s[1], width))
	}
	return t
}

// padded tells a tape with as many nodes as are wanted.
func padded(t api.Tape, count int) api.Tape {
	t = cloned(t)
	for len(t.Nodes) < count {
		t.Nodes = append(t.Nodes, takes(api.OpNeg, 0))
	}
	return t
}

// cloned tells a tape with memory of its own.
func cloned(t api.Tape) api.Tape {
	t.Nodes = slices.Clone(t.Nodes)
	for i, n := range t.Nodes {
		t.Nodes[i].In, t.Nodes[i].Bits = slices.Clone(n.In), slices.Clone(n.Bits)
	}
	return t
}

// sameTape tells whether two tapes say the same; nil and an empty list do.
func sameTape(a, b api.Tape) bool {
	return slices.EqualFunc(a.Nodes, b.Nodes, func(x, y api.Node) bool {
		same := slices.Equal(x.In, y.In) && slices.Equal(x.Bits, y.Bits)
		x.In, x.Bits, y.In, y.Bits = nil, nil, nil, nil
		return same && reflect.DeepEqual(x, y)
	})
}

// call is one of the twelve, with what it is handed beside the tape: nodes and other numbers, in the order in which it names them.
type call struct {
	name  string
	nodes []int
	args  []int
	ids   []int
	mask  api.Matrix
}

func (c call) do(t api.Tape) (api.Tape, int, api.Errno) {
	n, a := c.nodes, c.args
	switch c.name {
	case "Linear":
		return block.Linear(t, n[0], n[1])
	case "Dense":
		return block.Dense(t, n[0], n[1], n[2])
	case "Act":
		return block.Act(t, n[0], a[0])
	case "Conv":
		return block.Conv(t, n[0], n[1], n[2], a[0], a[1])
	case "Pool":
		return block.Pool(t, n[0], a[0], a[1])
	case "Gather":
		return block.Gather(t, n[0], c.ids)
	case "Norm":
		return block.Norm(t, n[0], n[1], n[2], a[0])
	case "Residual":
		return block.Residual(t, n[0], n[1])
	case "Gate":
		return block.Gate(t, n[0], n[1], n[2], n[3], n[4])
	case "Recur":
		return block.Recur(t, n[0], n[1], n[2], n[3], n[4])
	case "Attend":
		return block.Attend(t, n[0], n[1], n[2])
	case "Drop":
		return block.Drop(t, n[0], c.mask)
	}
	panic("no such call: " + c.name)
}

// The calls, with what they are handed.
func linear(x, w int) call   { return call{name: "Linear", nodes: []int{x, w}} }
func dense(x, w, b int) call { return call{name: "Dense", nodes: []int{x, w, b}} }
func act(x, op int) call     { return call{name: "Act", nodes: []int{x}, args: []int{op}} }
func conv(x, w, b, size, step int) call {
	return call{name: "Conv", nodes: []int{x, w, b}, args: []int{size, step}}
}
func pool(x, size, kind int) call {
	return call{name: "Pool", nodes: []int{x}, args: []int{size, kind}}
}
func gather(table int, ids ...int) call {
	return call{name: "Gather", nodes: []int{table}, ids: ids}
}
func norm(x, gain, bias, eps int) call {
	return call{name: "Norm", nodes: []int{x, gain, bias}, args: []int{eps}}
}
func residual(x, y int) call { return call{name: "Residual", nodes: []int{x, y}} }
func gate(x, w, b, u, c int) call {
	return call{name: "Gate", nodes: []int{x, w, b, u, c}}
}
func recur(x, h, w, u, b int) call {
	return call{name: "Recur", nodes: []int{x, h, w, u, b}}
}
func attend(q, k, v int) call { return call{name: "Attend", nodes: []int{q, k, v}} }
func drop(x int, mask api.Matrix) call {
	return call{name: "Drop", nodes: []int{x}, mask: mask}
}

// asked is a call and the tape that it is handed.
type asked struct {
	tape api.Tape
	call call
}

// rights has calls that nothing refuses, of every kind.
func rights(width int) []asked {
	one := [2]int{1, 1}
	flat := leaves(width, [2]int{1, 6}, [2]int{3, 2}, [2]int{1, 2}, [2]int{2, 6}, [2]int{2, 1})
	net := leaves(width, [2]int{2, 3}, [2]int{3, 2}, [2]int{1, 2}, [2]int{3, 2}, one, [2]int{2, 2})
	half := 0x3FE0000000000000
	return []asked{
		{net, linear(1, 2)},
		{net, linear(2, 1)},
		{net, dense(1, 2, 3)},
		{net, dense(1, 2, 5)},
		{net, dense(6, 6, 6)},
		{net, act(1, api.OpTanh)},
		{flat, conv(1, 2, 3, 3, 1)},
		{flat, conv(1, 2, 5, 3, 3)},
		{flat, conv(1, 2, 3, 3, math.MaxInt)},
		{flat, pool(4, 2, api.PoolGreatest)},
		{flat, pool(4, 3, api.PoolMean)},
		{flat, pool(1, 6, api.PoolGreatest)},
		{flat, pool(5, 1, api.PoolMean)},
		{net, gather(2, 0)},
		{net, gather(2, 2, 0, 2, 1)},
		{flat, norm(4, 1, 4, half)},
		{net, norm(1, 5, 5, 1)},
		{net, residual(2, 4)},
		{net, residual(5, 5)},
		{net, gate(1, 2, 3, 4, 5)},
		{net, recur(1, 6, 2, 6, 3)},
		{net, attend(1, 1, 6)},
		{flat, attend(1, 4, 5)},
		{net, drop(1, mat(2, 3, width, 0, 1, 2, 3, 4, 5))},
		{net, drop(1, mat(1, 1, width, 7))},
		{net, drop(5, mat(2, 2, width, 0, 1, 0, 1))},
	}
}

// wantPut wants a call to put these nodes, and to tell the number of the last one.
func wantPut(t *testing.T, made api.Tape, c call, nodes ...api.Node) {
	t.Helper()
	want := behind(made, nodes...)
	if got, number, e := c.do(made); e != api.OK || number != len(want.Nodes)-1 || !sameTape(got, want) {
		t.Errorf("%v: %v, %d, %v; want %v", c, got, number, e, want)
	}
}

// wantError wants a call to be refused, with nothing beside the error.
func wantError(t *testing.T, made api.Tape, c call, want api.Errno) {
	t.Helper()
	if got, number, e := c.do(made); e != want || number != 0 || len(got.Nodes) != 0 {
		t.Errorf("%v behind %d nodes: %v, %d, %v; want %v", c, len(made.Nodes), got, number, e, want)
	}
}

// TestGiven: what the other tests are given has all twelve calls, and none is refused.
func TestGiven(t *testing.T) {
	for _, width := range widths {
		seen := map[string]int{}
		for _, x := range rights(width) {
			seen[x.call.name]++
			if _, _, e := x.call.do(x.tape); e != api.OK {
				t.Errorf("%v: %v", x.call, e)
			}
		}
		if len(seen) != 12 {
			t.Errorf("%d calls", len(seen))
		}
	}
}
