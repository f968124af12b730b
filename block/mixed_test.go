package block_test

import (
	"math/rand"
	"slices"
	"testing"

	"pupil/api"
)

// held holds what a call answers against the chapter's words, and tells its error.
func held(t *testing.T, made api.Tape, c call) api.Errno {
	t.Helper()
	want, last, e := c.said(made)
	if got, number, f := c.do(made); f != e || number != last || !sameTape(got, want) {
		t.Errorf("%v of %v: %v, %d, %v; want %v, %d, %v", c, made, got, number, f, want, last, e)
	}
	return e
}

// field tells leaves of a few shapes, mixed by a seed, with some nodes behind them.
func field(r *rand.Rand) api.Tape {
	var t api.Tape
	for i := range 14 {
		width := 64
		if r.Intn(5) == 0 {
			width = 32
		}
		t.Nodes = append(t.Nodes, param(i, 1+r.Intn(3), 1+r.Intn(4), width))
		if r.Intn(3) == 0 {
			t.Nodes = append(t.Nodes, takes(api.OpTurn, len(t.Nodes)-1))
		}
	}
	return t
}

// anyCall tells some call on a tape.
func anyCall(r *rand.Rand, t api.Tape) call {
	node := func() int {
		if r.Intn(60) == 0 {
			return ends[r.Intn(len(ends))]
		}
		return r.Intn(len(t.Nodes))
	}
	small := func() int {
		if r.Intn(20) == 0 {
			return ends[r.Intn(len(ends))]
		}
		return r.Intn(4)
	}
	switch r.Intn(12) {
	case 0:
		return linear(node(), node())
	case 1:
		return dense(node(), node(), node())
	case 2:
		return act(node(), 18+r.Intn(13))
	case 3:
		return conv(node(), node(), node(), small(), small())
	case 4:
		return pool(node(), small(), small()%3)
	case 5:
		ids := make([]int, r.Intn(4))
		for i := range ids {
			ids[i] = small()
		}
		return gather(node(), ids...)
	case 6:
		return norm(node(), node(), node(), []int{0, 1, 0x3FB999999999999A, r.Int(), -r.Int(), api.Inf, api.NaN}[r.Intn(7)])
	case 7:
		return residual(node(), node())
	case 8:
		return gate(node(), node(), node(), node(), node())
	case 9:
		return recur(node(), node(), node(), node(), node())
	case 10:
		return attend(node(), node(), node())
	}
	mask := mat(1+r.Intn(3), 1+r.Intn(3), 32+32*r.Intn(2))
	for range mask.Rows * mask.Cols {
		mask.Bits = append(mask.Bits, r.Intn(1<<30))
	}
	return drop(node(), mask)
}

// TestP1401Mixed: many calls on many tapes against the chapter's words, one behind the other: what the one tells the next one is handed.
func TestP1401Mixed(t *testing.T) {
	r := rand.New(rand.NewSource(1401))
	told := map[string]map[api.Errno]int{}
	for range 250 {
		made := field(r)
		for range 60 {
			c := anyCall(r, made)
			e := held(t, made, c)
			if told[c.name] == nil {
				told[c.name] = map[api.Errno]int{}
			}
			told[c.name][e]++
			if e == api.OK && len(made.Nodes) < 120 {
				made, _, _ = c.do(made)
			}
		}
	}
	for name, l := range map[string][]api.Errno{
		"Linear": {api.ErrWidth, api.ErrShape}, "Dense": {api.ErrWidth, api.ErrShape}, "Act": {api.ErrOp}, "Conv": {api.ErrArg, api.ErrWidth, api.ErrShape},
		"Pool": {api.ErrArg, api.ErrShape}, "Gather": {api.ErrArg, api.ErrIndex}, "Norm": {api.ErrWidth, api.ErrShape, api.ErrInf, api.ErrNaN}, "Residual": {api.ErrWidth, api.ErrShape},
		"Gate": {api.ErrWidth, api.ErrShape}, "Recur": {api.ErrWidth, api.ErrShape}, "Attend": {api.ErrWidth, api.ErrShape}, "Drop": {api.ErrWidth, api.ErrShape},
	} {
		for _, e := range append(l, api.OK, api.ErrNode) {
			if told[name][e] == 0 {
				t.Errorf("no %s answered %d", name, e)
			}
		}
	}
}

// TestP1401Ends: ints at their ends, wherever they may stand.
func TestP1401Ends(t *testing.T) {
	for _, width := range widths {
		for _, x := range rights(width) {
			for _, n := range ends {
				for at := range x.call.nodes {
					held(t, x.tape, x.call.withNode(at, n))
				}
				for at := range x.call.args {
					c := x.call
					c.args = slices.Clone(c.args)
					c.args[at] = n
					held(t, x.tape, c)
				}
				for at := range x.call.ids {
					c := x.call
					c.ids = slices.Clone(c.ids)
					c.ids[at] = n
					held(t, x.tape, c)
				}
				if x.call.name == "Drop" {
					m := x.call.mask
					for _, m := range []api.Matrix{mat(n, m.Cols, width, m.Bits...), mat(m.Rows, n, width, m.Bits...), mat(m.Rows, m.Cols, n, m.Bits...), mat(1, 1, width, n), mat(n, n, n, n)} {
						held(t, x.tape, drop(x.call.nodes[0], m))
					}
				}
			}
			for _, node := range ends { // Fields of a node of the tape that it does not use, or can't have.
				for _, wrong := range []api.Node{numbers(api.OpForm, node, node, 0), takes(node, 0), takes(api.OpNeg, node), input(node, 1, 1, 64), param(50, node, node, node), constant(1, 1, 32, node)} {
					held(t, behind(x.tape, wrong), x.call)
				}
			}
		}
	}
}
