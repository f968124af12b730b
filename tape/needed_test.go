package tape_test

import (
	"math/rand"
	"slices"
	"testing"

	"pupil/api"
	"pupil/kernel"
	"pupil/tape"
	"pupil/tensor"
)

// given tells the tapes whose every node is asked for: all operations, long ones, wide ones, mixed ones.
func given() []api.Tape {
	list := []api.Tape{net(), long(70), tapeOf(constant(1, 1, 64, 0)), tapeOf(input(0, 1, 1, 64), input(1, 1, 1, 64))}
	for _, width := range widths {
		full, _ := all(every(width))
		list = append(list, full)
	}
	// Leaves behind what does not take them, a node that is taken twice, and one that takes what stands far ahead.
	list = append(list, tapeOf(
		constant(1, 1, 64, 0), param(1, 1, 1, 64), takes(api.OpNeg, 0), takes(api.OpAdd, 2, 2), input(0, 1, 1, 64),
		takes(api.OpMul, 0, 3), takes(api.OpNeg, 1), param(0, 1, 1, 64), takes(api.OpGlueCols, 5, 0, 5, 4), constant(2, 2, 32, 1, 2, 3, 4)))
	for seed := range int64(30) {
		list = append(list, grown(seed, 50))
	}
	return list
}

// TestP905Every: each node of each tape.
func TestP905Every(t *testing.T) {
	for _, made := range given() {
		for node := range made.Nodes {
			want := neededOf(made, node)
			if got, e := tape.Needed(made, node); e != api.OK || !slices.Equal(got, want) {
				t.Errorf("Needed(%v, %d): %v, %v; want %v", made, node, got, e, want)
			}
		}
	}
}

// TestP905Known: some that are told by hand.
func TestP905Known(t *testing.T) {
	made := tapeOf(input(0, 1, 1, 64), constant(1, 1, 64, 0), takes(api.OpNeg, 0), takes(api.OpAdd, 1, 1), takes(api.OpMul, 2, 0), takes(api.OpAdd, 3, 3), takes(api.OpAdd, 4, 5))
	for node, want := range [][]int{{0}, {1}, {0, 2}, {1, 3}, {0, 2, 4}, {1, 3, 5}, {0, 1, 2, 3, 4, 5, 6}} {
		if got, e := tape.Needed(made, node); e != api.OK || !slices.Equal(got, want) {
			t.Errorf("Needed(%d): %v, %v; want %v", node, got, e, want)
		}
	}
	// One that hangs on all of MaxNodes, on half of them, and on the first alone.
	chain := long(1024)
	for _, node := range []int{1023, 512, 0} {
		got, e := tape.Needed(chain, node)
		if e != api.OK || len(got) != node+1 || got[0] != 0 || got[node] != node {
			t.Errorf("Needed(%d) of a chain: %v, %v", node, got, e)
		}
	}
}

// refusedAt tells whether Needed and Prune of a node both answer an error, and nothing beside it.
func refusedAt(t *testing.T, made api.Tape, node int, want api.Errno) {
	t.Helper()
	if got, e := tape.Needed(made, node); e != want || len(got) != 0 {
		t.Errorf("Needed(%v, %d): %v, %v; want %v", made, node, got, e, want)
	}
	if got, old, e := tape.Prune(made, node); e != want || len(got.Nodes) != 0 || len(old) != 0 {
		t.Errorf("Prune(%v, %d): %v, %v, %v; want %v", made, node, got, old, e, want)
	}
}

// TestP905Refused: nodes that are not there; Check's error goes ahead.
func TestP905Refused(t *testing.T) {
	for _, made := range []api.Tape{{}, net(), long(1024)} {
		count := len(made.Nodes)
		for _, node := range append(ends, count, count+1) {
			if node < 0 || node >= count {
				refusedAt(t, made, node, api.ErrNode)
			}
		}
	}
	for _, x := range []struct {
		made api.Tape
		want api.Errno
	}{
		{behind(net(), takes(api.OpProduct, 0, 0)), api.ErrShape},
		{behind(net(), takes(api.OpNeg, 4)), api.ErrNode},
		{behind(net(), input(2, 1, 1, 64)), api.ErrInput},
		{behind(net(), param(5, 1, 1, 64)), api.ErrParam},
		{behind(net(), constant(1, 1, 32, api.NaN32)), api.ErrNaN},
		{tapeOf(api.Node{}), api.ErrOp},
		{long(1025), api.ErrLong},
	} {
		for _, node := range append(ends, len(x.made.Nodes)) {
			refusedAt(t, x.made, node, x.want)
		}
	}
	r := rand.New(rand.NewSource(905))
	for seed := range int64(20) {
		for range 50 {
			wrong := spoilt(grown(seed, 20), r)
			if _, f := checkOf(wrong); f.Err != api.OK {
				refusedAt(t, wrong, r.Intn(len(wrong.Nodes)), f.Err)
			}
		}
	}
}

// TestP906Every: each node of each tape; all inputs and parameters are kept, whatever hangs on them.
func TestP906Every(t *testing.T) {
	for _, made := range given() {
		for node := range made.Nodes {
			want, old := pruneOf(made, node)
			got, numbers, e := tape.Prune(made, node)
			if e != api.OK || !sameTape(got, want) || !slices.Equal(numbers, old) {
				t.Errorf("Prune(%v, %d): %v, %v, %v; want %v, %v", made, node, got, numbers, e, want, old)
			}
		}
	}
}

// TestP906Known: one that is told by hand: what is left out lies between, and leaves lie behind the node.
func TestP906Known(t *testing.T) {
	made := tapeOf(
		constant(1, 2, 64, 1, 2), takes(api.OpNeg, 0), param(0, 1, 2, 64), takes(api.OpExp, 1), takes(api.OpMul, 2, 1),
		constant(1, 1, 32, 3), numbers(api.OpCutCols, 1, 2, 4), takes(api.OpGlueRows, 1, 3, 4, 4), input(0, 3, 1, 32), takes(api.OpNeg, 8))
	want := tapeOf(
		constant(1, 2, 64, 1, 2), takes(api.OpNeg, 0), param(0, 1, 2, 64), takes(api.OpMul, 2, 1), numbers(api.OpCutCols, 1, 2, 3), input(0, 3, 1, 32))
	got, old, e := tape.Prune(made, 6)
	if e != api.OK || !sameTape(got, want) || !slices.Equal(old, []int{0, 1, 2, 4, 6, 8}) {
		t.Errorf("Prune: %v, %v, %v; want %v", got, old, e, want)
	}
	want = tapeOf(param(0, 1, 2, 64), input(0, 3, 1, 32), takes(api.OpNeg, 1))
	got, old, e = tape.Prune(made, 9)
	if e != api.OK || !sameTape(got, want) || !slices.Equal(old, []int{2, 8, 9}) {
		t.Errorf("Prune: %v, %v, %v; want %v", got, old, e, want)
	}
	want = tapeOf(param(0, 1, 2, 64), constant(1, 1, 32, 3), input(0, 3, 1, 32))
	got, old, e = tape.Prune(made, 5)
	if e != api.OK || !sameTape(got, want) || !slices.Equal(old, []int{2, 5, 8}) {
		t.Errorf("Prune: %v, %v, %v; want %v", got, old, e, want)
	}
}

// values reckons all nodes of a tape by kernel.Do; a leaf's elements are made from what kind it is and its number.
func values(made api.Tape) []api.Matrix {
	var list []api.Matrix
	for _, n := range made.Nodes {
		m, _ := tensor.Zero(n.Rows, n.Cols, n.Width)
		switch n.Op {
		case api.OpInput, api.OpParam:
			for i := range m.Bits {
				m.Bits[i] = 0x3F800000 + n.Op<<16 + n.A<<10 + i
			}
		case api.OpConst:
			m.Bits = n.Bits
		default:
			var in []api.Matrix
			for _, number := range n.In {
				in = append(in, list[number])
			}
			m, _ = kernel.Do(n.Op, n.A, n.B, in)
		}
		list = append(list, m)
	}
	return list
}

// TestP907: what Prune answers has no fault, the shapes and values of its nodes are the old ones', and pruned once more it is the same.
func TestP907(t *testing.T) {
	for _, made := range given() {
		shapes, _ := checkOf(made)
		was := values(made)
		for node := range made.Nodes {
			got, old, e := tape.Prune(made, node)
			now, f := tape.Check(got)
			if e != api.OK || f != (api.Fault{}) || len(now) != len(old) {
				t.Fatalf("Prune(%v, %d): %v; Check: %v", made, node, e, f)
			}
			for i, m := range values(got) {
				if now[i] != shapes[old[i]] || !tensor.Same(m, was[old[i]]) {
					t.Errorf("Prune(%v, %d): node %d is %v; it was %v", made, node, i, m, was[old[i]])
				}
			}
			again, same, _ := tape.Prune(got, slices.Index(old, node))
			if !sameTape(again, got) || len(same) != len(old) {
				t.Errorf("Prune of %v: %v", got, again)
			}
		}
	}
}
