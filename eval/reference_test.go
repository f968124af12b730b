package eval_test

import (
	"math/rand"
	"slices"
	"testing"

	"pupil/api"
	"pupil/bits"
	"pupil/eval"
	"pupil/kernel"
	"pupil/tape"
	"pupil/tensor"
)

// leafOf tells the matrix of a leaf, and whether a node is one.
func leafOf(n api.Node, inputs, params []api.Matrix) (api.Matrix, bool) {
	switch n.Op {
	case api.OpInput:
		return inputs[n.A], true
	case api.OpParam:
		return params[n.A], true
	case api.OpConst:
		return api.Matrix{Rows: n.Rows, Cols: n.Cols, Width: n.Width, Bits: n.Bits}, true
	}
	return api.Matrix{}, false
}

// valueOf reckons one node from the leaves up, with nothing kept.
func valueOf(t api.Tape, node int, inputs, params []api.Matrix) api.Matrix {
	n := t.Nodes[node]
	if m, ok := leafOf(n, inputs, params); ok {
		return m
	}
	var in []api.Matrix
	for _, taken := range n.In {
		in = append(in, valueOf(t, taken, inputs, params))
	}
	m, _ := kernel.Do(n.Op, n.A, n.B, in)
	return m
}

// unfit tells the error of a matrix that is to have a shape.
func unfit(m api.Matrix, s api.Shape) api.Errno {
	e := tensor.Check(m)
	if e == api.OK && m.Width != s.Width {
		e = api.ErrWidth
	}
	if e == api.OK && (m.Rows != s.Rows || m.Cols != s.Cols) {
		e = api.ErrShape
	}
	return e
}

// seatsOf looks for the fault of the inputs (the parameters).
func seatsOf(t api.Tape, shapes []api.Shape, op int, e api.Errno, l []api.Matrix) api.Fault {
	if len(l) != count(t, op) {
		return api.Fault{Err: e, Node: len(t.Nodes)}
	}
	for number, m := range l {
		node := slices.IndexFunc(t.Nodes, func(n api.Node) bool { return n.Op == op && n.A == number })
		if e := unfit(m, shapes[node]); e != api.OK {
			return api.Fault{Err: e, Node: node}
		}
	}
	return api.Fault{}
}

// unfinite tells the first element that is not finite, by its class.
func unfinite(m api.Matrix) (int, api.Errno) {
	for at, x := range m.Bits {
		switch bits.Class(x, m.Width) {
		case api.IsNaN:
			return at, api.ErrNaN
		case api.IsInfinite:
			return at, api.ErrInf
		}
	}
	return 0, api.OK
}

// runOf is P1001 reckoned once more.
func runOf(t api.Tape, inputs, params []api.Matrix) ([]api.Matrix, api.Fault) {
	shapes, f := tape.Check(t)
	if f.Err == api.OK {
		f = seatsOf(t, shapes, api.OpInput, api.ErrInput, inputs)
	}
	if f.Err == api.OK {
		f = seatsOf(t, shapes, api.OpParam, api.ErrParam, params)
	}
	if f.Err != api.OK {
		return nil, f
	}
	var values []api.Matrix
	for node := range t.Nodes {
		m := valueOf(t, node, inputs, params)
		if at, e := unfinite(m); e != api.OK {
			return nil, api.Fault{Err: e, Node: node, At: at}
		}
		values = append(values, m)
	}
	return values, api.Fault{}
}

// checkOf is P1002 reckoned once more.
func checkOf(t api.Tape, values []api.Matrix) api.Fault {
	shapes, f := tape.Check(t)
	if f.Err != api.OK {
		return f
	}
	if len(values) != len(t.Nodes) {
		return api.Fault{Err: api.ErrArg}
	}
	for node, m := range values {
		if e := unfit(m, shapes[node]); e != api.OK {
			return api.Fault{Err: e, Node: node}
		}
		if at, e := unfinite(m); e != api.OK {
			return api.Fault{Err: e, Node: node, At: at}
		}
		for at, x := range reckonedOf(t.Nodes[node], m, values) {
			if x != m.Bits[at] {
				return api.Fault{Err: api.ErrBits, Node: node, At: at}
			}
		}
	}
	return api.Fault{}
}

// reckonedOf tells what bits a node's value m is to have.
func reckonedOf(n api.Node, m api.Matrix, values []api.Matrix) []int {
	switch n.Op {
	case api.OpInput, api.OpParam:
		return m.Bits
	case api.OpConst:
		return n.Bits
	}
	var in []api.Matrix
	for _, taken := range n.In {
		in = append(in, values[taken])
	}
	m, _ = kernel.Do(n.Op, n.A, n.B, in)
	return m.Bits
}

// spoil turns something in a list of matrices.
func spoil(r *rand.Rand, l []api.Matrix) []api.Matrix {
	l = copies(l)
	if len(l) == 0 || r.Intn(8) == 0 {
		return append(l, some(r, 1, 1, 64))
	}
	m := &l[r.Intn(len(l))]
	if len(m.Bits) == 0 || m.Width != 32 && m.Width != 64 { // It was spoilt already.
		return l
	}
	at := r.Intn(len(m.Bits))
	switch r.Intn(10) {
	case 0:
		return l[:len(l)-1]
	case 1:
		m.Rows, m.Cols = m.Cols, m.Rows
	case 2:
		m.Width = append(noWidths, 32, 64)[r.Intn(len(noWidths)+2)]
	case 3:
		m.Rows = ends[r.Intn(len(ends))]
	case 4:
		m.Cols = ends[r.Intn(len(ends))]
	case 5:
		m.Bits = append(m.Bits, 0)
	case 6:
		m.Bits = m.Bits[:at]
	case 7:
		m.Bits[at] = infinite(m.Width)
	case 8:
		m.Bits[at] = none(m.Width) + r.Intn(2)
	case 9:
		m.Bits[at] ^= 1 << r.Intn(m.Width)
	}
	return l
}

// TestP1001Mixed: Run tells what the chapter says, of mixed tapes and of what is given with them, right or spoilt.
func TestP1001Mixed(t *testing.T) {
	for seed := range int64(150) {
		r := rand.New(rand.NewSource(seed))
		made := grown(r, 1+r.Intn(25))
		inputs, params := fill(r, made)
		for range 4 {
			values, f := runOf(made, inputs, params)
			wantRun(t, "mixed", made, inputs, params, values, f)
			if r.Intn(2) == 0 {
				inputs = spoil(r, inputs)
			} else {
				params = spoil(r, params)
			}
		}
	}
}

// TestP1002Mixed: Check tells what the chapter says, of values of Run, and of these spoilt.
func TestP1002Mixed(t *testing.T) {
	for seed := range int64(150) {
		r := rand.New(rand.NewSource(seed))
		made := grown(r, 1+r.Intn(25))
		inputs, params := fill(r, made)
		values, f := eval.Run(made, inputs, params)
		if f != (api.Fault{}) {
			continue
		}
		for range 6 {
			l := spoil(r, values)
			wantCheck(t, "spoilt", made, l, checkOf(made, l))
			l = spoil(r, l)
			wantCheck(t, "spoilt twice", made, l, checkOf(made, l))
		}
	}
}
