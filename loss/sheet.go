package loss

import (
	"errors"
	"strconv"

	"pupil/api"
	"pupil/bits"
	"pupil/tape"
)

// refusal is why a loss can't be put.
type refusal struct{ why api.Errno }

func (r refusal) Error() string { return "refused with error " + strconv.Itoa(int(r.why)) }

// sheet is a tape to which a call puts its nodes, one behind the other. From the first error on it keeps that one and puts nothing more, so that none need be asked for node by node.
type sheet struct {
	draft *tape.Draft
	width int // of the node that is named first: its constants have it
	last  int // the node that was put last
	err   error
}

// begin wants a tape to be right, and what is handed in to be nodes of it.
func begin(t api.Tape, first int, more ...int) *sheet {
	d, e := tape.Begin(t)
	s := &sheet{draft: d}
	s.refuse(e)
	s.width = s.shape(first).Width
	for _, node := range more {
		s.shape(node)
	}
	return s
}

// refuse keeps an error, if it is one, and none came ahead of it.
func (s *sheet) refuse(e api.Errno) {
	if s.err == nil && e != api.OK {
		s.err = refusal{e}
	}
}

// shape tells a node's shape, and wants that there is such a node.
func (s *sheet) shape(node int) api.Shape {
	if s.err != nil {
		return api.Shape{}
	}
	shape, e := s.draft.Shape(node)
	s.refuse(e)
	return shape
}

// alike wants two nodes to have one width, and one shape.
func (s *sheet) alike(x, y int) {
	a, b := s.shape(x), s.shape(y)
	if a.Width != b.Width {
		s.refuse(api.ErrWidth)
	}
	if a != b {
		s.refuse(api.ErrShape)
	}
}

// put puts a node, and tells its number.
func (s *sheet) put(n api.Node) int {
	if s.err != nil {
		return 0
	}
	number, e := s.draft.Put(n)
	s.refuse(e)
	s.last = number
	return number
}

// op puts an operation on nodes.
func (s *sheet) op(op int, in ...int) int { return s.put(api.Node{Op: op, In: in}) }

// number puts a binary64 as a constant, in the width that the constants have.
func (s *sheet) number(b int) int {
	narrow := bits.Convert(b, 64, s.width)
	return s.put(api.Node{Op: api.OpConst, Rows: 1, Cols: 1, Width: s.width, Bits: []int{narrow}})
}

// told tells the tape with all that was put, or why it was refused.
func (s *sheet) told() (api.Tape, int, api.Errno) {
	var r refusal
	if errors.As(s.err, &r) {
		return api.Tape{}, 0, r.why
	}
	return s.draft.Tape(), s.last, api.OK
}
