package block_test

import (
	"math"
	"testing"

	"pupil/api"
	"pupil/eval"
)

// wantShape wants what comes out of a call to have these rows and columns, and x's width.
func wantShape(t *testing.T, made api.Tape, c call, rows, cols int) {
	t.Helper()
	got, number, e := c.do(made)
	if e != api.OK {
		t.Fatalf("%v: %v", c, e)
	}
	shapes, e := shapesOf(got)
	if want := (api.Shape{Rows: rows, Cols: cols, Width: made.Nodes[c.nodes[0]].Width}); e != api.OK || shapes[number] != want {
		t.Errorf("%v: %v, %v; want %v", c, shapes, e, want)
	}
}

// TestP1409: the shapes of what comes out.
func TestP1409(t *testing.T) {
	for _, width := range widths {
		for rows := 1; rows <= 3; rows++ {
			for cols := 1; cols <= 4; cols++ {
				for n := 1; n <= 3; n++ {
					made := leaves(width, [2]int{rows, n}, [2]int{n, cols}, [2]int{1, cols}, [2]int{1, 1}, [2]int{1, n}, [2]int{rows, 1})
					wantShape(t, made, linear(1, 2), rows, cols)
					wantShape(t, made, dense(1, 2, 3), rows, cols)
					wantShape(t, made, dense(1, 2, 4), rows, cols)
					wantShape(t, made, act(1, api.OpExp), rows, n)
					wantShape(t, made, gather(1, 0, rows-1, 0), 3, n)
					wantShape(t, made, residual(1, 1), rows, n)
					wantShape(t, made, gate(1, 2, 3, 2, 4), rows, cols)
					wantShape(t, made, recur(1, 1, 2, 2, 3), rows, cols)
					for _, gain := range []int{1, 4, 5, 6} {
						for _, bias := range []int{1, 4, 5, 6} {
							wantShape(t, made, norm(1, gain, bias, 1), rows, n)
						}
					}
					for _, mask := range [][2]int{{rows, n}, {1, n}, {rows, 1}, {1, 1}} {
						wantShape(t, made, drop(1, mat(mask[0], mask[1], width, make([]int, mask[0]*mask[1])...)), rows, n)
					}
					made = leaves(width, [2]int{rows, n}, [2]int{5, n}, [2]int{5, cols})
					wantShape(t, made, attend(1, 2, 3), rows, cols)
					for kind := range 2 {
						made = leaves(width, [2]int{rows, n * cols})
						wantShape(t, made, pool(1, n, kind), rows, cols)
					}
					made = leaves(width, [2]int{1, n + 5}, [2]int{n, cols}, [2]int{1, cols})
					wantShape(t, made, conv(1, 2, 3, n, rows), 1, (5/rows+1)*cols)
				}
			}
		}
	}
}

// of tells a matrix of numbers, binary64.
func of(rows, cols int, list ...float64) api.Matrix {
	m := mat(rows, cols, 64)
	for _, f := range list {
		m.Bits = append(m.Bits, int(math.Float64bits(f)))
	}
	return m
}

// TestValues: what the pieces come to, where it can be told by hand.
func TestValues(t *testing.T) {
	x, w, b := of(2, 2, 1, 3, -2, 4), of(2, 2, 1, 0, 2, 1), of(1, 2, 10, 20)
	table, flat, zero := of(3, 2, 1, 2, 3, 4, 5, 6), of(1, 4, 4, 1, 3, 2), of(2, 2, 0, 0, 0, 0)
	eye := of(2, 2, 1, 0, 0, 1)
	params := []api.Matrix{x, w, b, table, flat, zero, eye, of(1, 1, 0)}
	var made api.Tape
	for i, m := range params {
		made.Nodes = append(made.Nodes, param(i, m.Rows, m.Cols, 64))
	}
	for _, c := range []struct {
		call call
		want api.Matrix
	}{
		{linear(0, 1), of(2, 2, 7, 3, 6, 4)},
		{dense(0, 1, 2), of(2, 2, 17, 23, 16, 24)},
		{act(0, api.OpRelu), of(2, 2, 1, 3, 0, 4)},
		{conv(4, 1, 2, 2, 2), of(1, 4, 16, 21, 17, 22)},
		{pool(4, 2, api.PoolGreatest), of(1, 2, 4, 3)},
		{pool(4, 2, api.PoolMean), of(1, 2, 2.5, 2.5)},
		{pool(0, 2, api.PoolMean), of(2, 1, 2, 1)},
		{gather(3, 2, 0, 2), of(3, 2, 5, 6, 1, 2, 5, 6)},
		{norm(0, 6, 7, 0), of(2, 2, -1, 0, 0, 1)},
		{norm(0, 2, 2, 0), of(2, 2, 0, 40, 0, 40)},
		{residual(0, 1), of(2, 2, 2, 3, 0, 5)},
		{gate(0, 5, 7, 5, 2), of(2, 2, 0.5*math.Tanh(10), 0.5, 0.5*math.Tanh(10), 0.5)},
		{recur(0, 6, 5, 6, 7), of(2, 2, math.Tanh(1), 0, 0, math.Tanh(1))},
		{attend(5, 0, 0), of(2, 2, -0.5, 3.5, -0.5, 3.5)},
		{drop(0, of(1, 2, 2, 0)), of(2, 2, 2, 0, -4, 0)},
	} {
		got, number, e := c.call.do(made)
		if e != api.OK {
			t.Fatalf("%v: %v", c.call, e)
		}
		values, f := eval.Run(got, nil, params)
		if f != (api.Fault{}) {
			t.Fatalf("%v: %v", c.call, f)
		}
		m := values[number]
		if m.Rows != c.want.Rows || m.Cols != c.want.Cols {
			t.Errorf("%v: %v; want %v", c.call, m, c.want)
			continue
		}
		for i := range m.Bits {
			if x, y := math.Float64frombits(uint64(m.Bits[i])), math.Float64frombits(uint64(c.want.Bits[i])); math.Abs(x-y) > 1e-15 {
				t.Errorf("%v, element %d: %v; want %v", c.call, i, x, y)
			}
		}
	}
}
