package block

import (
	"pupil/api"
	"pupil/bits"
	"pupil/exact"
	"pupil/tape"
)

// piece is a tape to which a call puts its nodes, one behind the other. Its methods give up by panic at the first refusal.
type piece struct {
	draft *tape.Draft
	width int // of the node that is named first: its constants have it
	last  int // the node that was put last
}

// refuse gives up with an error, if it is one.
func refuse(e api.Errno) {
	if e != api.OK {
		panic(e)
	}
}

// caught tells the error with which a call gave up; without one, none. What gave up otherwise is no answer, and goes on.
func caught(stop any) api.Errno {
	if stop == nil {
		return api.OK
	}
	return stop.(api.Errno)
}

// begin wants a tape to be right, and what is handed in to be nodes of it.
func begin(t api.Tape, first int, more ...int) *piece {
	d, e := tape.Begin(t)
	refuse(e)
	p := &piece{draft: d}
	p.width = p.shape(first).Width
	for _, node := range more {
		p.shape(node)
	}
	return p
}

// shape tells a node's shape, and wants that there is such a node.
func (p *piece) shape(node int) api.Shape {
	s, e := p.draft.Shape(node)
	refuse(e)
	return s
}

// put puts a node.
func (p *piece) put(n api.Node) int {
	number, e := p.draft.Put(n)
	refuse(e)
	p.last = number
	return number
}

// op puts an operation on nodes.
func (p *piece) op(op int, in ...int) int { return p.put(api.Node{Op: op, In: in}) }

// numbered puts an operation that has two numbers.
func (p *piece) numbered(op, a, b int, in ...int) int {
	return p.put(api.Node{Op: op, A: a, B: b, In: in})
}

// constant puts a matrix.
func (p *piece) constant(m api.Matrix) int {
	return p.put(api.Node{Op: api.OpConst, Rows: m.Rows, Cols: m.Cols, Width: m.Width, Bits: m.Bits})
}

// number puts a float of the width that the constants have.
func (p *piece) number(b int) int {
	return p.constant(api.Matrix{Rows: 1, Cols: 1, Width: p.width, Bits: []int{b}})
}

// whole puts a whole number.
func (p *piece) whole(n int) int { return p.number(bits.FromInt(n, p.width)) }

// root puts the root of a number that is not below 0.
func (p *piece) root(n int) int {
	b, _, _ := exact.Root(exact.Int(n), p.width, exact.Near)
	return p.number(b)
}

// dense puts the product of two nodes, and a third one besides.
func (p *piece) dense(x, w, b int) int {
	return p.op(api.OpAdd, p.op(api.OpProduct, x, w), b)
}

// told tells the tape with all that was put.
func (p *piece) told() (api.Tape, int, api.Errno) { return p.draft.Tape(), p.last, api.OK }
