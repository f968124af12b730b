package loss_test

import (
	"math/rand"
	"slices"
	"testing"

	"pupil/api"
)

// held holds what a call answers against the chapter's words, and tells its error.
func held(t *testing.T, made api.Tape, c call) api.Errno {
	t.Helper()
	want, last, e := c.said(made)
	if got, number, f := c.do(made); f != e || number != last || !sameTape(got, want) {
		t.Errorf("%v of %v: %v, %d, %v; want %v, %d, %v", c, made, got, number, f, want, last, e)
	}
	return e
}

// field tells leaves of a few shapes, mixed by a seed, with some nodes behind them.
func field(r *rand.Rand) api.Tape {
	var t api.Tape
	for i := range 10 {
		width := 64
		if r.Intn(4) == 0 {
			width = 32
		}
		t.Nodes = append(t.Nodes, param(i, 1+r.Intn(2), 1+r.Intn(2), width))
		if r.Intn(3) == 0 {
			t.Nodes = append(t.Nodes, takes(api.OpTurn, len(t.Nodes)-1))
		}
	}
	return t
}

// anyNumber tells some binary64, seldom one that is refused.
func anyNumber(r *rand.Rand) int {
	switch r.Intn(8) {
	case 0:
		return ends[r.Intn(len(ends))]
	case 1:
		return int(r.Uint64())
	case 2:
		return floats[r.Intn(len(floats))].wide
	}
	return floatOf(r.ExpFloat64(), 64)
}

// anyCall tells some call on a tape.
func anyCall(r *rand.Rand, t api.Tape) call {
	node := func() int {
		if r.Intn(60) == 0 {
			return ends[r.Intn(len(ends))]
		}
		return r.Intn(len(t.Nodes))
	}
	if at := r.Intn(8); at < 6 {
		return pairs(node(), node(), anyNumber(r))[at]
	}
	nodes := make([]int, r.Intn(4))
	for i := range nodes {
		nodes[i] = node()
	}
	return penalty(node(), r.Intn(4), anyNumber(r), nodes...)
}

// TestP1501Mixed: many calls on many tapes against the chapter's words, one behind the other: what the one tells the next one is handed.
func TestP1501Mixed(t *testing.T) {
	r := rand.New(rand.NewSource(1501))
	told := map[string]map[api.Errno]int{}
	for range 120 {
		made := field(r)
		for range 60 {
			c := anyCall(r, made)
			e := held(t, made, c)
			if told[c.name] == nil {
				told[c.name] = map[api.Errno]int{}
			}
			told[c.name][e]++
			if e == api.OK && len(made.Nodes) < 120 {
				made, _, _ = c.do(made)
			}
		}
	}
	for _, c := range append(pairs(0, 0, 0), penalty(0, 0, 0)) {
		errs := []api.Errno{api.OK, api.ErrNode, api.ErrShape, api.ErrWidth}
		switch c.name {
		case "Huber":
			errs = append(errs, api.ErrArg, api.ErrInf)
		case "Penalty":
			errs = append(errs, api.ErrArg, api.ErrInf, api.ErrNaN)
		}
		for _, e := range errs {
			if told[c.name][e] == 0 {
				t.Errorf("no %s answered %d", c.name, e)
			}
		}
	}
}

// TestP1501Ends: ints at their ends, wherever they may stand.
func TestP1501Ends(t *testing.T) {
	for _, width := range widths {
		for _, x := range rights(width) {
			for _, n := range ends {
				for at := range x.call.places() {
					held(t, x.tape, x.call.withNode(at, n))
				}
				for _, turn := range []func(c *call){
					func(c *call) { c.delta = n },
					func(c *call) { c.kind = n },
					func(c *call) { c.factor = n },
					func(c *call) { c.nodes = slices.Repeat([]int{n}, len(c.nodes)) },
					func(c *call) { c.y, c.want, c.delta, c.nodes, c.kind, c.factor = n, n, n, []int{n}, n, n },
				} {
					c := x.call
					turn(&c)
					held(t, x.tape, c)
					held(t, api.Tape{}, c)
				}
			}
			for _, n := range ends { // Fields of a node of the tape that it does not use, or can't have.
				for _, wrong := range []api.Node{{Op: api.OpForm, A: n, B: n, In: []int{0}}, takes(n, 0), takes(api.OpNeg, n), input(n, 1, 1, 64), param(50, n, n, n), constant(1, 1, 32, n)} {
					held(t, behind(x.tape, wrong), x.call)
				}
			}
		}
	}
}
