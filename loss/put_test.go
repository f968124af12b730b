package loss_test

import (
	"slices"
	"testing"

	"pupil/api"
)

// bitsOf has the bits of a number, in both widths.
type bitsOf map[int]int

var (
	ones     = bitsOf{32: 0x3F800000, 64: one}
	twos     = bitsOf{32: 0x40000000, 64: two}
	threes   = bitsOf{32: 0x40400000, 64: 0x4008000000000000}
	halves   = bitsOf{32: 0x3F000000, 64: half}
	quarters = bitsOf{32: 0x3E800000, 64: 0x3FD0000000000000}
)

func number(width int, b bitsOf) api.Node { return constant(1, 1, width, b[width]) }

// board is a tape of eight nodes: pairs of nodes of one shape, and two numbers.
func board(width int) api.Tape {
	return leaves(width, [2]int{1, 2}, [2]int{1, 2}, [2]int{3, 4}, [2]int{3, 4}, [2]int{2, 1}, [2]int{1, 1}, [2]int{1, 1})
}

// TestP1501Put: each call puts its nodes behind those of the tape, as chapter 9's Put does, and tells the number of the last one: all calls against the chapter's words.
func TestP1501Put(t *testing.T) {
	for _, width := range widths {
		for _, x := range rights(width) {
			for _, more := range []int{0, 1, 7} {
				made := padded(x.tape, len(x.tape.Nodes)+more)
				want, number, e := x.call.said(made)
				if e != api.OK || number != len(want.Nodes)-1 {
					t.Fatalf("%v: %v", x.call, e)
				}
				wantPut(t, made, x.call, want.Nodes[len(made.Nodes):]...)
			}
		}
	}
}

// TestP1502: Squared and Absolute.
func TestP1502(t *testing.T) {
	for _, width := range widths {
		for _, p := range [][2]int{{1, 2}, {2, 1}, {3, 4}, {5, 5}, {6, 7}, {7, 7}} {
			wantPut(t, board(width), squared(p[0], p[1]), takes(api.OpSub, p[0], p[1]), takes(api.OpMul, 8, 8), takes(api.OpMean, 9))
			wantPut(t, board(width), absolute(p[0], p[1]), takes(api.OpSub, p[0], p[1]), takes(api.OpAbs, 8), takes(api.OpMean, 9))
		}
	}
}

// TestP1503: Huber.
func TestP1503(t *testing.T) {
	for _, width := range widths {
		for _, p := range [][2]int{{1, 2}, {2, 1}, {3, 4}, {5, 5}, {6, 7}, {7, 7}} {
			for _, delta := range []bitsOf{ones, twos, threes, halves, quarters} {
				wantPut(t, board(width), huber(p[0], p[1], delta[64]),
					takes(api.OpSub, p[0], p[1]), takes(api.OpAbs, 8), number(width, delta), takes(api.OpSub, 9, 10), takes(api.OpRelu, 11), takes(api.OpSub, 9, 12),
					number(width, halves), takes(api.OpMul, 13, 14), takes(api.OpSub, 9, 15), takes(api.OpMul, 13, 16), takes(api.OpMean, 17))
			}
		}
	}
}

// TestP1504: Cross, Logistic and Hinge.
func TestP1504(t *testing.T) {
	for _, width := range widths {
		for _, x := range []struct {
			y, want int
			rows    bitsOf
		}{{1, 2, ones}, {2, 1, ones}, {3, 4, threes}, {4, 3, threes}, {5, 5, twos}, {6, 7, ones}} {
			wantPut(t, board(width), cross(x.y, x.want),
				takes(api.OpLogSoft, x.y), takes(api.OpMul, 8, x.want), takes(api.OpSum, 9), number(width, x.rows), takes(api.OpDiv, 10, 11), takes(api.OpNeg, 12))
			wantPut(t, board(width), logistic(x.y, x.want),
				takes(api.OpSoftplus, x.y), takes(api.OpMul, x.y, x.want), takes(api.OpSub, 8, 9), takes(api.OpMean, 10))
			wantPut(t, board(width), hinge(x.y, x.want),
				takes(api.OpMul, x.y, x.want), number(width, ones), takes(api.OpSub, 9, 8), takes(api.OpRelu, 10), takes(api.OpMean, 11))
		}
	}
}

// TestP1505: Penalty of one node, of two, of one twice, of many, of y itself.
func TestP1505(t *testing.T) {
	for _, width := range widths {
		made := board(width)
		factor := number(width, quarters)
		wantPut(t, made, penalty(6, api.CostAbs, quarters[64], 3),
			takes(api.OpAbs, 3), takes(api.OpSum, 8), factor, takes(api.OpMul, 9, 10), takes(api.OpAdd, 6, 11))
		wantPut(t, made, penalty(6, api.CostSquare, quarters[64], 3),
			takes(api.OpMul, 3, 3), takes(api.OpSum, 8), factor, takes(api.OpMul, 9, 10), takes(api.OpAdd, 6, 11))
		wantPut(t, made, penalty(7, api.CostAbs, quarters[64], 7),
			takes(api.OpAbs, 7), takes(api.OpSum, 8), factor, takes(api.OpMul, 9, 10), takes(api.OpAdd, 7, 11))
		wantPut(t, made, penalty(6, api.CostAbs, quarters[64], 5, 1),
			takes(api.OpAbs, 5), takes(api.OpSum, 8), takes(api.OpAbs, 1), takes(api.OpSum, 10), takes(api.OpAdd, 9, 11),
			factor, takes(api.OpMul, 12, 13), takes(api.OpAdd, 6, 14))
		wantPut(t, made, penalty(6, api.CostSquare, quarters[64], 4, 4),
			takes(api.OpMul, 4, 4), takes(api.OpSum, 8), takes(api.OpMul, 4, 4), takes(api.OpSum, 10), takes(api.OpAdd, 9, 11),
			factor, takes(api.OpMul, 12, 13), takes(api.OpAdd, 6, 14))
		wantPut(t, made, penalty(7, api.CostSquare, quarters[64], 3, 1, 6, 3),
			takes(api.OpMul, 3, 3), takes(api.OpSum, 8), takes(api.OpMul, 1, 1), takes(api.OpSum, 10), takes(api.OpMul, 6, 6), takes(api.OpSum, 12), takes(api.OpMul, 3, 3), takes(api.OpSum, 14),
			takes(api.OpAdd, 9, 11), takes(api.OpAdd, 16, 13), takes(api.OpAdd, 17, 15), factor, takes(api.OpMul, 18, 19), takes(api.OpAdd, 7, 20))
	}
}

// TestP1505Many: as many nodes as a tape has room for: three of each, and two more.
func TestP1505Many(t *testing.T) {
	for _, width := range widths {
		for kind := api.CostAbs; kind <= api.CostSquare; kind++ {
			made := board(width)
			nodes := make([]int, 338) // 8 nodes, 338 of each of two kinds, 337 sums of two, three more: 1024
			for i := range nodes {
				nodes[i] = 1 + i%7
			}
			want := penalty(6, kind, half, nodes...).list(8, api.Shape{Rows: 1, Cols: 1, Width: width})
			if len(want) != 1016 {
				t.Fatalf("%d nodes", len(want))
			}
			wantPut(t, made, penalty(6, kind, half, nodes...), want...)
			wantError(t, made, penalty(6, kind, half, append(nodes, 1)...), api.ErrLong)
			wantError(t, padded(made, 9), penalty(6, kind, half, nodes...), api.ErrLong)
			for _, many := range []int{339, 508, 509, 1024, 100000} {
				wantError(t, made, penalty(6, kind, half, slices.Repeat([]int{3}, many)...), api.ErrLong)
			}
			wantError(t, made, penalty(6, kind, half, append(slices.Repeat([]int{3}, 100000), 8)...), api.ErrNode)
			wantError(t, made, penalty(1, kind, half, slices.Repeat([]int{3}, 100000)...), api.ErrShape)
		}
	}
}
