package block_test

import (
	"math"
	"slices"
	"testing"

	"pupil/api"
)

// spoiltArgs tells a call with numbers that it refuses itself; false: it refuses none.
func (c call) spoiltArgs() (call, api.Errno, bool) {
	switch c.name {
	case "Act":
		return act(c.nodes[0], api.OpAdd), api.ErrOp, true
	case "Pool":
		return pool(c.nodes[0], 0, 5), api.ErrArg, true
	case "Gather":
		return gather(c.nodes[0]), api.ErrArg, true
	case "Residual":
		return residual(0, c.nodes[0]), api.ErrWidth, true
	}
	return c, api.OK, false
}

// withNode tells a call with another number for one of its nodes.
func (c call) withNode(at, node int) call {
	c.nodes = slices.Clone(c.nodes)
	c.nodes[at] = node
	return c
}

// TestP1401Tape: a node of the tape that is not right is told ahead of all else, the first one of several.
func TestP1401Tape(t *testing.T) {
	for _, width := range widths {
		for _, x := range rights(width) {
			none := x.call
			for at := range none.nodes {
				none = none.withNode(at, -1)
			}
			wrong, _, _ := x.call.spoiltArgs()
			for _, c := range []call{x.call, none, wrong} {
				for _, w := range []struct {
					tape api.Tape
					want api.Errno
				}{
					{behind(x.tape, api.Node{Op: 99}), api.ErrOp},
					{behind(x.tape, takes(api.OpNeg, len(x.tape.Nodes))), api.ErrNode},
					{behind(x.tape, takes(api.OpNeg), api.Node{Op: 99}), api.ErrArg},
					{behind(x.tape, input(3, 1, 1, 64)), api.ErrInput},
					{behind(x.tape, param(64, 1, 1, 64)), api.ErrParam},
					{behind(x.tape, constant(1, 2, 64, 0, api.NaN)), api.ErrNaN},
					{behind(x.tape, constant(1, 1, 32, -1)), api.ErrBits},
					{behind(tapeOf(takes(api.OpNeg, 0)), x.tape.Nodes...), api.ErrNode},
					{behind(tapeOf(constant(1, 1, 32, api.Inf32)), x.tape.Nodes...), api.ErrInf},
					{padded(x.tape, 1025), api.ErrLong},
				} {
					wantError(t, w.tape, c, w.want)
				}
			}
		}
	}
}

// TestP1401Nodes: a number that is no node of the tape, in whichever place, is told ahead of what the call says, and ahead of any Put.
func TestP1401Nodes(t *testing.T) {
	for _, width := range widths {
		for _, x := range rights(width) {
			wrong, _, _ := x.call.spoiltArgs()
			count := len(x.tape.Nodes)
			for at := range x.call.nodes {
				for _, node := range []int{-1, count, count + 1, count + 2, -count, 1 << 32, 1<<32 + 1, math.MinInt, math.MinInt + 1, math.MaxInt} {
					wantError(t, x.tape, x.call.withNode(at, node), api.ErrNode)
					wantError(t, x.tape, wrong.withNode(at, node), api.ErrNode)
					wantError(t, api.Tape{}, x.call.withNode(at, node), api.ErrNode)
				}
				wantError(t, padded(x.tape, 1024), x.call.withNode(at, 1024), api.ErrNode)
			}
			wantError(t, api.Tape{}, x.call, api.ErrNode)
			wantError(t, tapeOf(), wrong, api.ErrNode)
			// Spare room of the tape's list is no node.
			nodes := slices.Grow(x.tape.Nodes, 4)
			for i := range 4 {
				nodes[:count+4][count+i] = param(40+i, 2, 2, width)
			}
			for at := range x.call.nodes {
				wantError(t, api.Tape{Nodes: nodes[:count]}, x.call.withNode(at, count), api.ErrNode)
			}
		}
	}
}

// TestP1401Full: a tape that has no room for the last node, or for any of those ahead of it, refuses that Put; one that has just room enough does not.
func TestP1401Full(t *testing.T) {
	for _, width := range widths {
		for _, x := range rights(width) {
			many := len(putBy(t, x.tape, x.call))
			for room := range many {
				wantError(t, padded(x.tape, 1024-room), x.call, api.ErrLong)
			}
			made := padded(x.tape, 1024-many)
			want, _, _ := x.call.said(made)
			wantPut(t, made, x.call, want.Nodes[1024-many:]...)
			// What the call says comes ahead of it.
			if wrong, want, ok := x.call.spoiltArgs(); ok {
				wantError(t, x.tape, wrong, want)
				wantError(t, padded(x.tape, 1024), wrong, want)
			}
		}
	}
	full := padded(leaves(64, [2]int{1, 2}), 1024)
	for _, c := range []call{
		norm(1, 1, 1, api.NaN), gather(1, -1), gather(1, math.MaxInt), linear(1, 1), linear(0, 1), conv(1, 1, 1, 0, 0), drop(1, api.Matrix{}), attend(1, 0, 0),
	} {
		wantError(t, full, c, api.ErrLong)
	}
}

// wantSaid wants a call to be refused by what it says itself: ahead of any Put, also where the tape has no room for one.
func wantSaid(t *testing.T, made api.Tape, c call, want api.Errno) {
	t.Helper()
	wantError(t, made, c, want)
	wantError(t, padded(made, 1024), c, want)
}

// TestP1403Refused: Act of what is no operation on each element; Residual of unlike nodes.
func TestP1403Refused(t *testing.T) {
	made := leaves(64, [2]int{2, 3}, [2]int{1, 3}, [2]int{2, 1}, [2]int{3, 2})
	for op := -5; op < 70; op++ {
		if op < 20 || op > 28 {
			wantSaid(t, made, act(1, op), api.ErrOp)
		}
	}
	for _, op := range ends {
		wantSaid(t, made, act(1, op), api.ErrOp)
		wantError(t, made, act(-1, op), api.ErrNode)
	}
	for y := 2; y <= 4; y++ { // What would stretch is refused too.
		wantSaid(t, made, residual(1, y), api.ErrShape)
		wantSaid(t, made, residual(y, 1), api.ErrShape)
	}
	other := tapeOf(input(0, 2, 3, 64), input(1, 2, 3, 32), input(2, 3, 2, 32))
	wantSaid(t, other, residual(0, 1), api.ErrWidth)
	wantSaid(t, other, residual(1, 0), api.ErrWidth)
	wantSaid(t, other, residual(0, 2), api.ErrWidth) // ahead of the shape
	wantSaid(t, other, residual(2, 0), api.ErrWidth)
	wantSaid(t, other, residual(1, 2), api.ErrShape)
}

// TestP1404Refused: windows that don't go, sizes and kinds that are none, numbers that are no rows.
func TestP1404Refused(t *testing.T) {
	made := leaves(64, [2]int{1, 6}, [2]int{2, 6}, [2]int{3, 2}, [2]int{1, 2}, [2]int{1, 130})
	for _, n := range []int{0, -1, math.MinInt} {
		wantError(t, made, conv(1, 3, 4, n, 1), api.ErrArg)
		wantError(t, made, conv(1, 3, 4, 3, n), api.ErrArg)
		wantError(t, made, conv(1, 3, 4, 7, n), api.ErrArg)   // ahead of a size above the columns
		wantError(t, made, conv(2, 3, 4, n, n), api.ErrShape) // more than one row ahead of it
		wantSaid(t, made, pool(1, n, api.PoolMean), api.ErrArg)
		wantSaid(t, made, pool(1, n, api.PoolGreatest), api.ErrArg)
	}
	for _, n := range []int{7, 8, 1 << 32, math.MaxInt} {
		wantError(t, made, conv(1, 3, 4, n, 1), api.ErrShape)
		wantSaid(t, made, pool(2, n, api.PoolMean), api.ErrShape)
		wantSaid(t, made, pool(2, n, api.PoolGreatest), api.ErrShape)
	}
	wantError(t, made, conv(2, 3, 4, 3, 1), api.ErrShape)
	wantError(t, made, conv(5, 3, 4, 65, 1), api.ErrLong)  // 66 windows of 65
	wantError(t, made, conv(5, 3, 4, 40, 1), api.ErrShape) // the windows go, the product does not
	for _, size := range []int{4, 5} {
		wantSaid(t, made, pool(1, size, api.PoolMean), api.ErrShape)
		wantSaid(t, made, pool(2, size, api.PoolGreatest), api.ErrShape)
	}
	for _, kind := range []int{-1, 2, 3, 64, 1 << 32, 1<<32 | 1, math.MinInt, math.MaxInt} {
		wantSaid(t, made, pool(1, 2, kind), api.ErrArg)
		wantSaid(t, made, pool(1, 4, kind), api.ErrArg) // ahead of a size that does not divide
		wantError(t, made, pool(9, 2, kind), api.ErrNode)
	}
	for _, id := range []int{-1, -2, 3, 4, 1 << 32, math.MinInt, math.MinInt + 1, math.MaxInt - 1, math.MaxInt} {
		wantError(t, made, gather(3, id), api.ErrIndex)
		wantError(t, made, gather(3, 0, 1, id), api.ErrIndex)
		wantError(t, made, gather(3, id, 0), api.ErrIndex)
	}
	wantSaid(t, made, call{name: "Gather", nodes: []int{3}, ids: []int{}}, api.ErrArg)
	wantSaid(t, made, call{name: "Gather", nodes: []int{3}, ids: make([]int, 0, 3)}, api.ErrArg)
}

// sized is a tape whose nodes have these widths, rows and columns.
func sized(shapes ...api.Shape) api.Tape {
	var t api.Tape
	for i, s := range shapes {
		t.Nodes = append(t.Nodes, param(i, s.Rows, s.Cols, s.Width))
	}
	return t
}

// wide and slim are shapes of both widths.
func wide(rows, cols int) api.Shape { return api.Shape{Rows: rows, Cols: cols, Width: 64} }
func slim(rows, cols int) api.Shape { return api.Shape{Rows: rows, Cols: cols, Width: 32} }

// TestP1401Puts: widths and shapes that don't go together, at each Put of a call that can be refused so; the first one that is refused is told.
func TestP1401Puts(t *testing.T) {
	for _, x := range []struct {
		made api.Tape
		call call
		want api.Errno
	}{
		{sized(wide(1, 2), slim(2, 1)), linear(0, 1), api.ErrWidth},
		{sized(wide(1, 2), slim(1, 2)), linear(0, 1), api.ErrWidth},
		{sized(wide(1, 2), wide(1, 2)), linear(0, 1), api.ErrShape},
		{sized(wide(65, 1), wide(1, 64)), linear(0, 1), api.ErrLong},

		{sized(wide(1, 2), wide(1, 2), slim(1, 1)), dense(0, 1, 2), api.ErrShape},
		{sized(wide(1, 2), slim(2, 2), wide(1, 3)), dense(0, 1, 2), api.ErrWidth},
		{sized(wide(1, 2), wide(2, 2), slim(1, 2)), dense(0, 1, 2), api.ErrWidth},
		{sized(wide(1, 2), wide(2, 2), wide(1, 3)), dense(0, 1, 2), api.ErrShape},
		{sized(wide(4096, 1), wide(1, 1), wide(1, 2)), dense(0, 1, 2), api.ErrLong},

		{sized(wide(1, 4), slim(2, 2), wide(1, 3)), conv(0, 1, 2, 2, 1), api.ErrWidth},
		{sized(wide(1, 4), wide(3, 2), slim(1, 3)), conv(0, 1, 2, 2, 1), api.ErrShape},
		{sized(wide(1, 99), wide(2, 42), slim(1, 3)), conv(0, 1, 2, 2, 1), api.ErrLong},
		{sized(wide(1, 4), wide(2, 2), slim(1, 3)), conv(0, 1, 2, 2, 1), api.ErrWidth},
		{sized(wide(1, 4), wide(2, 2), wide(1, 3)), conv(0, 1, 2, 2, 1), api.ErrShape},
		{sized(wide(1, 4), wide(4, 2), wide(4096, 1)), conv(0, 1, 2, 4, 1), api.ErrLong},

		{sized(wide(2, 2049)), gather(0, 0, 1), api.ErrLong},
		{sized(wide(2, 2048)), gather(0, 0, 1, 0), api.ErrLong},
		{sized(wide(2, 2048)), gather(0, 0, 1, 0, 2), api.ErrIndex},

		{sized(wide(2, 3), slim(1, 2), wide(1, 2)), norm(0, 1, 2, api.NaN), api.ErrNaN},
		{sized(wide(2, 3), slim(1, 2), wide(1, 2)), norm(0, 1, 2, api.Inf), api.ErrInf},
		{sized(wide(2, 3), slim(1, 2), wide(1, 2)), norm(0, 1, 2, 0), api.ErrWidth},
		{sized(wide(2, 3), wide(1, 2), slim(1, 1)), norm(0, 1, 2, 0), api.ErrShape},
		{sized(wide(1, 64), wide(65, 1), slim(1, 1)), norm(0, 1, 2, 0), api.ErrLong},
		{sized(wide(2, 3), wide(1, 3), slim(1, 2)), norm(0, 1, 2, 0), api.ErrWidth},
		{sized(wide(2, 3), wide(1, 3), wide(1, 2)), norm(0, 1, 2, 0), api.ErrShape},
		{sized(wide(1, 64), wide(1, 1), wide(65, 1)), norm(0, 1, 2, 0), api.ErrLong},

		{sized(wide(1, 2), wide(3, 2), slim(1, 1), wide(1, 1)), gate(0, 1, 2, 3, 2), api.ErrShape},
		{sized(wide(1, 2), slim(2, 2), wide(1, 1), wide(1, 1)), gate(0, 1, 2, 3, 2), api.ErrWidth},
		{sized(wide(65, 1), wide(1, 64), slim(1, 1), wide(2, 2)), gate(0, 1, 2, 3, 2), api.ErrLong},
		{sized(wide(1, 2), wide(2, 2), slim(1, 1), wide(1, 1)), gate(0, 1, 2, 3, 2), api.ErrWidth},
		{sized(wide(1, 2), wide(2, 2), wide(1, 3), slim(1, 1)), gate(0, 1, 2, 3, 2), api.ErrShape},
		{sized(wide(1, 2), wide(2, 2), wide(1, 2), slim(1, 1)), gate(0, 1, 2, 3, 0), api.ErrWidth},
		{sized(wide(1, 2), wide(2, 2), wide(1, 2), wide(1, 2)), gate(0, 1, 2, 3, 2), api.ErrShape},
		{sized(wide(1, 2), wide(2, 2), wide(1, 2), slim(1, 2)), gate(0, 1, 2, 1, 3), api.ErrWidth},
		{sized(wide(1, 2), wide(2, 2), wide(1, 2), wide(1, 3)), gate(0, 1, 2, 1, 3), api.ErrShape},
		{sized(wide(1, 2), wide(2, 2), wide(1, 1), wide(2, 3)), gate(0, 1, 2, 3, 2), api.ErrShape},
		{sized(wide(1, 1), wide(1, 1), wide(64, 1), wide(1, 65)), gate(0, 1, 2, 3, 0), api.ErrLong},

		{sized(wide(1, 2), wide(1, 3), wide(3, 2), slim(3, 2), wide(1, 2)), recur(0, 1, 2, 3, 4), api.ErrShape},
		{sized(wide(1, 2), wide(1, 3), slim(2, 2), wide(2, 2), wide(1, 2)), recur(0, 1, 2, 3, 4), api.ErrWidth},
		{sized(wide(1, 2), wide(1, 3), wide(2, 2), wide(2, 2), slim(1, 2)), recur(0, 1, 2, 3, 4), api.ErrShape},
		{sized(wide(1, 2), slim(1, 3), wide(2, 2), wide(3, 2), wide(1, 3)), recur(0, 1, 2, 3, 4), api.ErrWidth},
		{sized(wide(1, 2), slim(1, 3), wide(2, 2), slim(3, 2), wide(1, 3)), recur(0, 1, 2, 3, 4), api.ErrWidth},
		{sized(wide(1, 2), wide(1, 3), wide(2, 2), wide(3, 3), slim(1, 2)), recur(0, 1, 2, 3, 4), api.ErrShape},
		{sized(wide(65, 1), wide(1, 1), wide(1, 1), wide(1, 64), slim(1, 2)), recur(0, 1, 2, 3, 4), api.ErrLong},
		{sized(wide(1, 2), wide(1, 3), wide(2, 2), wide(3, 2), slim(1, 2)), recur(0, 1, 2, 3, 4), api.ErrWidth},
		{sized(wide(1, 2), wide(1, 3), wide(2, 2), wide(3, 2), wide(1, 3)), recur(0, 1, 2, 3, 4), api.ErrShape},
		{sized(wide(1, 2), wide(1, 3), wide(2, 2), wide(3, 2), wide(4096, 1)), recur(0, 1, 2, 3, 4), api.ErrLong},

		{sized(wide(2, 3), slim(4, 2), wide(4, 5)), attend(0, 1, 2), api.ErrWidth},
		{sized(wide(2, 3), wide(3, 4), slim(4, 5)), attend(0, 1, 2), api.ErrShape},
		{sized(wide(65, 1), wide(64, 1), slim(4, 5)), attend(0, 1, 2), api.ErrLong},
		{sized(wide(2, 3), wide(4, 3), slim(5, 5)), attend(0, 1, 2), api.ErrWidth},
		{sized(wide(2, 3), wide(4, 3), wide(5, 4)), attend(0, 1, 2), api.ErrShape},
		{sized(wide(65, 1), wide(1, 1), wide(1, 64)), attend(0, 1, 2), api.ErrLong},
	} {
		wantError(t, x.made, x.call, x.want)
		if _, _, e := x.call.said(x.made); e != x.want {
			t.Errorf("%v: %v; the chapter says %v", x.call, x.want, e)
		}
		for room := range 14 { // A Put that there is no room for may be the first that is refused.
			held(t, padded(x.made, 1024-room), x.call)
		}
	}
}

// TestP1408Refused: masks that are no constants, or don't go with x.
func TestP1408Refused(t *testing.T) {
	made := tapeOf(input(0, 2, 3, 64), input(1, 2, 3, 32), input(2, 1, 4096, 64))
	for _, x := range []struct {
		mask api.Matrix
		want api.Errno
	}{
		{api.Matrix{}, api.ErrWidth},
		{mat(2, 3, 16, 0, 0, 0, 0, 0, 0), api.ErrWidth},
		{mat(0, 3, 64), api.ErrShape},
		{mat(2, -1, 64), api.ErrShape},
		{mat(math.MaxInt, 3, 64, 0), api.ErrLong},
		{mat(1<<62, 4, 64), api.ErrLong},
		{mat(64, 65, 64), api.ErrLong},
		{mat(2, 3, 64, 0, 0, 0, 0, 0), api.ErrShape},
		{mat(2, 3, 64, 0, 0, 0, 0, 0, 0, 0), api.ErrShape},
		{mat(2, 3, 64), api.ErrShape},
		{mat(2, 3, 32, 0, 0, 0, 0, 0, -1), api.ErrBits},
		{mat(2, 3, 32, api.NaN32, 0, 0, 0, 0, 1<<32), api.ErrBits},
		{mat(2, 3, 64, 0, 0, api.NaN, 0, api.Inf, 0), api.ErrNaN},
		{mat(2, 3, 64, 0, 0, -1, 0, 0, 0), api.ErrNaN},
		{mat(2, 3, 64, 0, api.Inf, api.NaN, 0, 0, 0), api.ErrInf},
		{mat(2, 3, 32, 0, 0, 0, 0, 0, 0xFF800000), api.ErrInf},
		{mat(2, 3, 32, 0, 0, 0, 0, 0, 0xFFFFFFFF), api.ErrNaN},
		{mat(2, 3, 32, 0, 0, 0, 0, 0, 0), api.ErrWidth},
		{mat(3, 2, 32, 0, 0, 0, 0, 0, 0), api.ErrWidth},
		{mat(3, 2, 64, 0, 0, 0, 0, 0, 0), api.ErrShape},
		{mat(1, 2, 64, 0, 0), api.ErrShape},
		{mat(3, 1, 64, 0, 0, 0), api.ErrShape},
	} {
		wantError(t, made, drop(0, x.mask), x.want)
	}
	wantError(t, made, drop(1, mat(2, 3, 64, 0, 0, 0, 0, 0, 0)), api.ErrWidth)
	wantError(t, made, drop(2, mat(2, 1, 64, 0, 0)), api.ErrLong)
	wantError(t, made, drop(3, api.Matrix{}), api.ErrNode)
}
