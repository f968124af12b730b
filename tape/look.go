package tape

import (
	"pupil/api"
	"pupil/kernel"
	"pupil/tensor"
)

// look goes over nodes one by one, and gives up at the first that is not right.
type look struct {
	shapes         []api.Shape // of the nodes that it went over: they are right
	inputs, params seats
}

// seats tells at which node each number of the inputs (of the parameters) stands.
type seats map[int]int

// over looks at all nodes of a list.
func over(nodes []api.Node) *look {
	l := &look{inputs: seats{}, params: seats{}}
	for _, n := range nodes {
		l.node(n)
	}
	return l
}

// whole looks at all nodes of a list, and whether numbers of inputs or parameters are missing.
func whole(nodes []api.Node) *look {
	l := over(nodes)
	l.full(l.inputs, api.ErrInput)
	l.full(l.params, api.ErrParam)
	return l
}

// refuse gives up with an error, if it is one. The node is the one behind those that are right: where all are, how many there are.
func (l *look) refuse(e api.Errno, at int) {
	if e != api.OK {
		panic(api.Fault{Err: e, Node: len(l.shapes), At: at})
	}
}

// full wants the seats to have each number from 0 to how many there are less 1.
func (l *look) full(s seats, e api.Errno) {
	for number := range len(s) {
		if _, ok := s[number]; !ok {
			l.refuse(e, number)
		}
	}
}

// nodes tells the nodes by their numbers, of which none is missing.
func (s seats) nodes() []int {
	list := make([]int, len(s))
	for number := range list {
		list[number] = s[number]
	}
	return list
}

// has wants a node to be one of those that it went over.
func (l *look) has(node int) {
	if !l.ahead(node) {
		l.refuse(api.ErrNode, 0)
	}
}

// ahead tells whether it went over a node.
func (l *look) ahead(node int) bool { return node >= 0 && node < len(l.shapes) }

// node wants a node to be right behind those ahead of it.
func (l *look) node(n api.Node) {
	if len(l.shapes) == api.MaxNodes {
		l.refuse(api.ErrLong, 0)
	}
	l.refuse(fields(n), 0)
	for at, taken := range n.In {
		if !l.ahead(taken) {
			l.refuse(api.ErrNode, at)
		}
	}
	l.shapes = append(l.shapes, l.shape(n))
}

// fields tells whether there is such an operation, and whether nothing stands in fields that it does not use.
func fields(n api.Node) api.Errno {
	switch n.Op {
	case api.OpInput, api.OpParam:
		if len(n.Bits) > 0 {
			return api.ErrArg
		}
		n.A = 0 // Which one it is may be any number here; else it is like a constant.
		fallthrough
	case api.OpConst:
		if n.A != 0 || n.B != 0 || len(n.In) > 0 {
			return api.ErrArg
		}
		return api.OK
	}
	e := kernel.Takes(n.Op, n.A, n.B, len(n.In))
	if e == api.OK && (own(n) != (api.Shape{}) || len(n.Bits) > 0) {
		return api.ErrArg
	}
	return e
}

// own tells the shape that stands in a node's fields.
func own(n api.Node) api.Shape {
	return api.Shape{Rows: n.Rows, Cols: n.Cols, Width: n.Width}
}

// shape tells the shape of a node whose fields are right.
func (l *look) shape(n api.Node) api.Shape {
	switch n.Op {
	case api.OpInput:
		return l.seated(n, l.inputs, api.MaxInputs, api.ErrInput)
	case api.OpParam:
		return l.seated(n, l.params, api.MaxParams, api.ErrParam)
	case api.OpConst:
		return l.constant(n)
	}
	return l.reckoned(n)
}

// seated gives an input (a parameter) its seat: a number below a bound, that none ahead of it has.
func (l *look) seated(n api.Node, s seats, bound int, e api.Errno) api.Shape {
	l.refuse(tensor.CheckShape(own(n)), 0)
	if _, taken := s[n.A]; taken || n.A < 0 || n.A >= bound {
		l.refuse(e, 0)
	}
	s[n.A] = len(l.shapes)
	return own(n)
}

// constant wants the matrix of a constant to be in form and finite.
func (l *look) constant(n api.Node) api.Shape {
	at, e := tensor.Finite(api.Matrix{Rows: n.Rows, Cols: n.Cols, Width: n.Width, Bits: n.Bits})
	l.refuse(e, at)
	return own(n)
}

// reckoned wants the nodes that an operation takes to fit.
func (l *look) reckoned(n api.Node) api.Shape {
	in := make([]api.Shape, len(n.In))
	for i, taken := range n.In {
		in[i] = l.shapes[taken]
	}
	s, e := kernel.Shape(n.Op, n.A, n.B, in)
	l.refuse(e, 0)
	return s
}
