package block_test

import (
	"math"
	"testing"

	"pupil/api"
)

// bitsOf has the bits of a few numbers, in both widths.
type bitsOf map[int]int

var (
	twos    = bitsOf{32: 0x40000000, 64: 0x4000000000000000}
	threes  = bitsOf{32: 0x40400000, 64: 0x4008000000000000}
	sixes   = bitsOf{32: 0x40C00000, 64: 0x4018000000000000}
	quarter = bitsOf{32: 0x3E800000, 64: 0x3FD0000000000000}
	roots   = bitsOf{32: 0x3FDDB3D7, 64: 0x3FFBB67AE8584CAA} // of 3
)

func number(width int, b bitsOf) api.Node { return constant(1, 1, width, b[width]) }

// TestP1401Put: each call puts its nodes behind those of the tape, as chapter 9's Put does, and tells the number of the last one: all calls against the chapter's words.
func TestP1401Put(t *testing.T) {
	for _, width := range widths {
		for _, x := range rights(width) {
			for _, more := range []int{0, 1, 7} {
				made := padded(x.tape, len(x.tape.Nodes)+more)
				want, number, e := x.call.said(made)
				if e != api.OK || number != len(want.Nodes)-1 {
					t.Fatalf("%v: %v", x.call, e)
				}
				wantPut(t, made, x.call, want.Nodes[len(made.Nodes):]...)
			}
		}
	}
}

// TestP1403: Linear, Dense, Act, Residual.
func TestP1403(t *testing.T) {
	for _, width := range widths {
		made := leaves(width, [2]int{2, 3}, [2]int{3, 2}, [2]int{1, 2}, [2]int{2, 3})
		wantPut(t, made, linear(1, 2), takes(api.OpProduct, 1, 2))
		wantPut(t, made, linear(2, 1), takes(api.OpProduct, 2, 1))
		wantPut(t, made, dense(1, 2, 3), takes(api.OpProduct, 1, 2), takes(api.OpAdd, 5, 3))
		wantPut(t, made, residual(1, 4), takes(api.OpAdd, 1, 4))
		wantPut(t, made, residual(4, 1), takes(api.OpAdd, 4, 1))
		wantPut(t, made, residual(2, 2), takes(api.OpAdd, 2, 2))
		for op := api.OpNeg; op <= api.OpSoftplus; op++ {
			wantPut(t, made, act(3, op), takes(op, 3))
			wantPut(t, made, act(0, op), takes(op, 0))
		}
	}
}

// TestP1404Conv: windows of a row, a Dense of each, in one row.
func TestP1404Conv(t *testing.T) {
	for _, width := range widths {
		made := leaves(width, [2]int{1, 7}, [2]int{3, 2}, [2]int{1, 2}, [2]int{2, 5}, [2]int{1, 1}, [2]int{7, 4}, [2]int{2, 1})
		for _, x := range []struct {
			call   call
			across int
		}{
			{conv(1, 2, 3, 3, 1), 10},
			{conv(1, 2, 3, 3, 2), 6},
			{conv(1, 2, 3, 3, 3), 4},
			{conv(1, 2, 3, 3, 4), 4},
			{conv(1, 2, 5, 3, 5), 2},
			{conv(1, 4, 5, 2, 1), 30},
			{conv(1, 6, 5, 7, math.MaxInt), 4},
			{conv(1, 6, 7, 7, 1), 8}, // What is added makes two rows of the one.
		} {
			n, a := x.call.nodes, x.call.args
			wantPut(t, made, x.call,
				numbers(api.OpWindow, a[0], a[1], n[0]), takes(api.OpProduct, 8, n[1]), takes(api.OpAdd, 9, n[2]), numbers(api.OpForm, 1, x.across, 10))
		}
	}
}

// TestP1404Pool: both kinds, of rows and of columns.
func TestP1404Pool(t *testing.T) {
	for _, width := range widths {
		made := leaves(width, [2]int{1, 6}, [2]int{4, 6}, [2]int{5, 1})
		for _, x := range []struct{ x, size, lines, rows, groups int }{
			{1, 2, 3, 1, 3}, {1, 3, 2, 1, 2}, {1, 6, 1, 1, 1}, {2, 2, 12, 4, 3}, {2, 3, 8, 4, 2}, {2, 6, 4, 4, 1},
		} {
			wantPut(t, made, pool(x.x, x.size, api.PoolGreatest),
				numbers(api.OpForm, x.lines, x.size, x.x), takes(api.OpGreatest, 4), numbers(api.OpForm, x.rows, x.groups, 5))
			size := number(width, map[int]bitsOf{2: twos, 3: threes, 6: sixes}[x.size])
			wantPut(t, made, pool(x.x, x.size, api.PoolMean),
				numbers(api.OpForm, x.lines, x.size, x.x), takes(api.OpSumRows, 4), size, takes(api.OpDiv, 5, 6), numbers(api.OpForm, x.rows, x.groups, 7))
		}
		wantPut(t, made, pool(3, 1, api.PoolGreatest), numbers(api.OpForm, 5, 1, 3), takes(api.OpGreatest, 4), numbers(api.OpForm, 5, 1, 5))
	}
}

// TestP1404Gather: rows in whatever order, one of them also twice, or many times.
func TestP1404Gather(t *testing.T) {
	for _, width := range widths {
		made := leaves(width, [2]int{3, 2}, [2]int{1, 5})
		wantPut(t, made, gather(1, 2), numbers(api.OpCutRows, 2, 3, 1), takes(api.OpGlueRows, 3))
		wantPut(t, made, gather(2, 0), numbers(api.OpCutRows, 0, 1, 2), takes(api.OpGlueRows, 3))
		wantPut(t, made, gather(1, 1, 1), numbers(api.OpCutRows, 1, 2, 1), numbers(api.OpCutRows, 1, 2, 1), takes(api.OpGlueRows, 3, 4))
		wantPut(t, made, gather(1, 2, 0, 1, 2),
			numbers(api.OpCutRows, 2, 3, 1), numbers(api.OpCutRows, 0, 1, 1), numbers(api.OpCutRows, 1, 2, 1), numbers(api.OpCutRows, 2, 3, 1), takes(api.OpGlueRows, 3, 4, 5, 6))
		var ids, rows []int
		var nodes []api.Node
		for i := range 1020 {
			ids, rows, nodes = append(ids, i%3), append(rows, 3+i), append(nodes, numbers(api.OpCutRows, i%3, i%3+1, 1))
		}
		wantPut(t, made, gather(1, ids...), append(nodes, takes(api.OpGlueRows, rows...))...)
		wantError(t, made, gather(1, append(ids, 0)...), api.ErrLong)
	}
}

// TestP1405: Norm.
func TestP1405(t *testing.T) {
	for _, width := range widths {
		made := leaves(width, [2]int{2, 3}, [2]int{1, 3}, [2]int{2, 1}, [2]int{1, 6}, [2]int{1, 1})
		put := func(x, gain, bias int, count bitsOf) []api.Node {
			return []api.Node{
				takes(api.OpSumRows, x), number(width, count), takes(api.OpDiv, 6, 7), takes(api.OpSub, x, 8), takes(api.OpMul, 9, 9), takes(api.OpSumRows, 10), takes(api.OpDiv, 11, 7),
				number(width, quarter), takes(api.OpAdd, 12, 13), takes(api.OpSqrt, 14), takes(api.OpDiv, 9, 15), takes(api.OpMul, 16, gain), takes(api.OpAdd, 17, bias),
			}
		}
		wantPut(t, made, norm(1, 2, 3, quarter[64]), put(1, 2, 3, threes)...)
		wantPut(t, made, norm(1, 3, 2, quarter[64]), put(1, 3, 2, threes)...)
		wantPut(t, made, norm(1, 1, 1, quarter[64]), put(1, 1, 1, threes)...)
		wantPut(t, made, norm(4, 5, 4, quarter[64]), put(4, 5, 4, sixes)...)
	}
}

// TestP1406: Gate and Recur.
func TestP1406(t *testing.T) {
	for _, width := range widths {
		made := leaves(width, [2]int{2, 3}, [2]int{3, 2}, [2]int{1, 2}, [2]int{3, 2}, [2]int{1, 1}, [2]int{2, 2})
		wantPut(t, made, gate(1, 2, 3, 4, 5),
			takes(api.OpProduct, 1, 2), takes(api.OpAdd, 7, 3), takes(api.OpSigmoid, 8), takes(api.OpProduct, 1, 4), takes(api.OpAdd, 10, 5), takes(api.OpTanh, 11), takes(api.OpMul, 9, 12))
		wantPut(t, made, recur(1, 6, 4, 6, 3),
			takes(api.OpProduct, 1, 4), takes(api.OpProduct, 6, 6), takes(api.OpAdd, 7, 8), takes(api.OpAdd, 9, 3), takes(api.OpTanh, 10))
		made = leaves(width, [2]int{1, 4}, [2]int{1, 3}, [2]int{4, 2}, [2]int{3, 2}, [2]int{1, 2})
		wantPut(t, made, recur(1, 2, 3, 4, 5),
			takes(api.OpProduct, 1, 3), takes(api.OpProduct, 2, 4), takes(api.OpAdd, 6, 7), takes(api.OpAdd, 8, 5), takes(api.OpTanh, 9))
	}
}

// TestP1407: Attend.
func TestP1407(t *testing.T) {
	for _, width := range widths {
		made := leaves(width, [2]int{2, 3}, [2]int{4, 3}, [2]int{4, 5}, [2]int{3, 2}, [2]int{2, 2})
		put := func(q, k, v int, root bitsOf) []api.Node {
			return []api.Node{takes(api.OpTurn, k), takes(api.OpProduct, q, 6), number(width, root), takes(api.OpDiv, 7, 8), takes(api.OpSoftmax, 9), takes(api.OpProduct, 10, v)}
		}
		wantPut(t, made, attend(1, 2, 3), put(1, 2, 3, roots)...)
		wantPut(t, made, attend(2, 1, 5), put(2, 1, 5, roots)...)
		wantPut(t, made, attend(5, 4, 4), put(5, 4, 4, bitsOf{32: 0x3FB504F3, 64: 0x3FF6A09E667F3BCD})...)
	}
}

// TestP1408: Drop, with masks of x's shape and such as stretch, or stretch x.
func TestP1408(t *testing.T) {
	for _, width := range widths {
		made := leaves(width, [2]int{2, 3}, [2]int{1, 1})
		top := bitsOf{32: 1 << 31, 64: math.MinInt}[width] // -0
		for _, m := range []api.Matrix{
			mat(2, 3, width, 0, 1, 2, 3, top, 5), mat(1, 3, width, 7, 8, 9), mat(2, 1, width, top, top+1), mat(1, 1, width, 0x3F800000),
		} {
			wantPut(t, made, drop(1, m), constant(m.Rows, m.Cols, width, m.Bits...), takes(api.OpMul, 1, 3))
			wantPut(t, made, drop(2, m), constant(m.Rows, m.Cols, width, m.Bits...), takes(api.OpMul, 2, 3))
		}
	}
}
