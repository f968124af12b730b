package loss_test

import (
	"math"
	"slices"
	"testing"

	"pupil/api"
)

// wantSaid wants a call to be refused by what it says itself: ahead of any Put, also where the tape has no room for one.
func wantSaid(t *testing.T, made api.Tape, c call, want api.Errno) {
	t.Helper()
	wantError(t, made, c, want)
	wantError(t, padded(made, 1024), c, want)
}

// spoilt tells a call that says an error itself, on the tapes of rights.
func (c call) spoilt() (call, api.Errno) {
	if c.name == "Penalty" {
		return penalty(1, c.kind, c.factor, c.nodes...), api.ErrShape
	}
	c.want = 0
	return c, api.ErrWidth
}

// TestP1501Tape: a node of the tape that is not right is told ahead of all else, the first one of several.
func TestP1501Tape(t *testing.T) {
	for _, width := range widths {
		for _, x := range rights(width) {
			none := x.call
			for at := range none.places() {
				none = none.withNode(at, -1)
			}
			wrong, _ := x.call.spoilt()
			empty := x.call
			empty.nodes, empty.kind, empty.delta = nil, 0, 0
			for _, c := range []call{x.call, none, wrong, empty} {
				for _, w := range []struct {
					tape api.Tape
					want api.Errno
				}{
					{behind(x.tape, api.Node{Op: 99}), api.ErrOp},
					{behind(x.tape, takes(api.OpNeg, len(x.tape.Nodes))), api.ErrNode},
					{behind(x.tape, takes(api.OpNeg), api.Node{Op: 99}), api.ErrArg},
					{behind(x.tape, input(3, 1, 1, 64)), api.ErrInput},
					{behind(x.tape, param(64, 1, 1, 64)), api.ErrParam},
					{behind(x.tape, constant(1, 2, 64, 0, api.NaN)), api.ErrNaN},
					{behind(x.tape, constant(1, 1, 32, -1)), api.ErrBits},
					{behind(tapeOf(takes(api.OpNeg, 0)), x.tape.Nodes...), api.ErrNode},
					{behind(tapeOf(constant(1, 1, 32, api.Inf32)), x.tape.Nodes...), api.ErrInf},
					{padded(x.tape, 1025), api.ErrLong},
				} {
					wantError(t, w.tape, c, w.want)
				}
			}
		}
	}
}

// TestP1501Nodes: a number that is no node of the tape, in whichever place, is told ahead of what the call says, and ahead of any Put.
func TestP1501Nodes(t *testing.T) {
	for _, width := range widths {
		for _, x := range rights(width) {
			count := len(x.tape.Nodes)
			wrong, _ := x.call.spoilt()
			odd := x.call
			odd.kind, odd.delta, odd.factor = 7, 0, api.NaN
			for at := range x.call.places() {
				for _, node := range []int{-1, count, count + 1, count + 2, -count, 1 << 32, 1<<32 + 1, math.MinInt, math.MinInt + 1, math.MaxInt} {
					for _, c := range []call{x.call, wrong, odd} {
						wantError(t, x.tape, c.withNode(at, node), api.ErrNode)
						wantError(t, api.Tape{}, c.withNode(at, node), api.ErrNode)
					}
				}
				wantError(t, padded(x.tape, 1024), x.call.withNode(at, 1024), api.ErrNode)
			}
			wantError(t, api.Tape{}, x.call, api.ErrNode)
			wantError(t, tapeOf(), wrong, api.ErrNode)
			wantError(t, api.Tape{Nodes: make([]api.Node, 0, 9)}, odd, api.ErrNode)
			// Spare room of the tape's list is no node.
			nodes := slices.Grow(x.tape.Nodes, 4)
			for i := range 4 {
				nodes[:count+4][count+i] = param(40+i, 1, 1, width)
			}
			for at := range x.call.places() {
				wantError(t, api.Tape{Nodes: nodes[:count]}, x.call.withNode(at, count), api.ErrNode)
			}
		}
	}
	for _, y := range []int{-1, 2, math.MinInt, math.MaxInt} { // y alone, where Penalty has no nodes
		wantError(t, inputs(), penalty(y, 7, 0), api.ErrNode)
		wantError(t, api.Tape{}, penalty(y, api.CostAbs, 0), api.ErrNode)
	}
}

// TestP1501Full: a tape that has no room for the last node, or for any of those ahead of it, refuses that Put; one that has just room enough does not. What a call says comes ahead of it.
func TestP1501Full(t *testing.T) {
	for _, width := range widths {
		for _, x := range rights(width) {
			many := len(putBy(t, x.tape, x.call))
			for room := range many {
				wantError(t, padded(x.tape, 1024-room), x.call, api.ErrLong)
			}
			made := padded(x.tape, 1024-many)
			shapes, _ := shapesOf(x.tape)
			wantPut(t, made, x.call, x.call.list(1024-many, shapes[x.call.y])...)
			wrong, e := x.call.spoilt()
			wantSaid(t, x.tape, wrong, e)
			wantSaid(t, made, wrong, e)
		}
	}
}

// TestP1501Unlike: y and want of unlike widths, and of unlike rows or columns, also such as would stretch: the width is told ahead of the shape, both ahead of delta.
func TestP1501Unlike(t *testing.T) {
	shapes := [][2]int{{2, 3}, {3, 2}, {1, 3}, {2, 1}, {1, 1}, {1, 6}, {6, 1}}
	for _, width := range widths {
		made := leaves(width, shapes...)
		made.Nodes[0] = input(0, 2, 3, 96-width)
		for y := range made.Nodes {
			for want := range made.Nodes {
				e := api.OK
				switch {
				case (y == 0) != (want == 0):
					e = api.ErrWidth
				case y != want:
					e = api.ErrShape
				}
				for _, c := range pairs(y, want, one) {
					if e == api.OK {
						putBy(t, made, c)
					} else {
						wantSaid(t, made, c, e)
					}
				}
				for _, delta := range []int{0, math.MinInt, minus, api.NaN} {
					if e == api.OK {
						wantSaid(t, made, huber(y, want, delta), api.ErrArg)
					} else {
						wantSaid(t, made, huber(y, want, delta), e)
					}
				}
			}
		}
	}
}

// TestP1503Refused: delta that is no number, or not above 0, ahead of any Put; an infinite one at its own Put.
func TestP1503Refused(t *testing.T) {
	for _, width := range widths {
		for _, delta := range []int{0, math.MinInt, math.MinInt + 1, -1 << 52, minus, -1, -2, api.NaN, math.MaxInt, api.Inf + 1, math.MinInt | api.Inf} {
			wantSaid(t, board(width), huber(1, 2, delta), api.ErrArg)
			wantError(t, board(width), huber(1, 8, delta), api.ErrNode)
		}
		for room, want := range []api.Errno{api.ErrLong, api.ErrLong, api.ErrLong, api.ErrInf, api.ErrInf} {
			wantError(t, padded(board(width), 1024-room), huber(1, 2, api.Inf), want)
		}
		putBy(t, board(width), huber(1, 2, 1))
	}
	putBy(t, board(64), huber(1, 2, api.Inf-1))
	wantError(t, board(32), huber(1, 2, api.Inf-1), api.ErrInf)
}

// TestP1505Refused: y of more than one number, ahead of no nodes and of kinds that are none; these ahead of any Put; then the first Put that is refused.
func TestP1505Refused(t *testing.T) {
	for _, width := range widths {
		made := board(width)
		for kind := -3; kind < 9; kind++ {
			for _, nodes := range [][]int{nil, {}, make([]int, 0, 3), {6}, {3, 4}} {
				for _, y := range []int{0, 1, 3, 5} {
					wantSaid(t, made, penalty(y, kind, api.NaN, nodes...), api.ErrShape)
				}
				if len(nodes) == 0 || kind < 1 || kind > 2 {
					wantSaid(t, made, penalty(6, kind, api.NaN, nodes...), api.ErrArg)
				}
			}
		}
		for _, kind := range ends {
			if kind != api.CostAbs && kind != api.CostSquare {
				wantSaid(t, made, penalty(6, kind, half, 1), api.ErrArg)
				wantSaid(t, made, penalty(6, kind, half), api.ErrArg)
			}
		}
		wantSaid(t, made, penalty(6, 1<<32|1, half, 1), api.ErrArg)
		for room := range 12 { // Of two nodes the constant is put sixth.
			want := api.ErrLong
			if room > 5 {
				want = api.ErrInf
			}
			wantError(t, padded(made, 1024-room), penalty(6, api.CostAbs, api.Inf, 1, 2), want)
		}
	}
}

// TestP1505Widths: nodes of unlike widths are refused where they meet: at a sum of two, at the product with the constant.
func TestP1505Widths(t *testing.T) {
	made := tapeOf(param(0, 1, 1, 64), param(1, 1, 1, 32), param(2, 2, 2, 64), param(3, 2, 2, 32))
	for _, x := range []struct {
		call call
		want api.Errno
		last int // how many nodes it puts until it is refused
	}{
		{penalty(0, api.CostAbs, half, 1), api.ErrWidth, 4},
		{penalty(1, api.CostSquare, half, 2), api.ErrWidth, 4},
		{penalty(0, api.CostSquare, half, 2, 3), api.ErrWidth, 5},
		{penalty(0, api.CostAbs, api.Inf, 3, 2), api.ErrWidth, 5},
		{penalty(0, api.CostAbs, half, 0, 2, 3, 1), api.ErrWidth, 10},
		{penalty(0, api.CostAbs, api.Inf, 3, 1), api.ErrInf, 6},
		{penalty(0, api.CostAbs, half, 3, 1), api.ErrWidth, 7},
		{penalty(1, api.CostAbs, half, 0, 0, 2), api.ErrWidth, 10},
	} {
		wantError(t, made, x.call, x.want)
		for room := range 14 {
			want := api.ErrLong
			if room >= x.last {
				want = x.want
			}
			wantError(t, padded(made, 1024-room), x.call, want)
		}
	}
}
