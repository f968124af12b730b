package part

import (
	"pupil/api"
	"pupil/data"
	"pupil/tape"
	"pupil/tensor"
)

// net is what a right tape tells: the shapes of its nodes, and at which of them its inputs and parameters stand, by their numbers.
type net struct {
	shapes         []api.Shape
	inputs, params []int
}

// netOf looks at a tape.
func netOf(t api.Tape) (net, api.Errno) {
	shapes, f := tape.Check(t)
	if f.Err != api.OK {
		return net{}, f.Err
	}
	inputs, _ := tape.Inputs(t)
	params, _ := tape.Params(t)
	return net{shapes, inputs, params}, api.OK
}

// has tells whether there is such a node.
func (n net) has(node int) bool { return node >= 0 && node < len(n.shapes) }

// param tells the shape of a parameter.
func (n net) param(number int) api.Shape { return n.shapes[n.params[number]] }

// fitting tells the net of a plan that fits a set.
func fitting(p api.Plan, s api.Set) (net, api.Errno) {
	if _, e := data.Check(s); e != api.OK {
		return net{}, e
	}
	n, e := netOf(p.Tape)
	if e == api.OK {
		e = n.checkEnds(p)
	}
	if e == api.OK {
		e = n.checkInputs(s.X, s.Y)
	}
	if e == api.OK {
		e = n.checkInits(p.Inits)
	}
	return n, e
}

// closing tells the net of a plan by which a part can be closed.
func closing(p api.Plan, x api.Part) (net, api.Errno) {
	n, e := netOf(p.Tape)
	if e == api.OK {
		e = n.checkPart(p.Loss, x)
	}
	return n, e
}

// checkEnds wants a plan's nodes to be there, and its loss to be one number.
func (n net) checkEnds(p api.Plan) api.Errno {
	if !n.has(p.Out) || !n.has(p.Loss) {
		return api.ErrNode
	}
	if s := n.shapes[p.Loss]; s.Rows != 1 || s.Cols != 1 {
		return api.ErrShape
	}
	return api.OK
}

// checkInputs wants the inputs to be just a row of each of these.
func (n net) checkInputs(given ...api.Matrix) api.Errno {
	if len(n.inputs) != len(given) {
		return api.ErrInput
	}
	for i, m := range given {
		row := api.Shape{Rows: 1, Cols: m.Cols, Width: m.Width}
		if e := differs(n.shapes[n.inputs[i]], row); e != api.OK {
			return e
		}
	}
	return api.OK
}

// checkInits wants the parameters to have the shapes with which they are to begin.
func (n net) checkInits(inits []api.Init) api.Errno {
	if len(n.params) != len(inits) {
		return api.ErrParam
	}
	for i, x := range inits {
		begun := api.Shape{Rows: x.Rows, Cols: x.Cols, Width: x.Width}
		if e := differs(n.param(i), begun); e != api.OK {
			return e
		}
	}
	return api.OK
}

// checkParams wants matrices to be finite, and to fit the parameters.
func (n net) checkParams(params []api.Matrix) api.Errno {
	if len(n.params) != len(params) {
		return api.ErrParam
	}
	for i, m := range params {
		if _, e := tensor.Finite(m); e != api.OK {
			return e
		}
		if e := tensor.Fits(m, n.param(i)); e != api.OK {
			return e
		}
	}
	return api.OK
}

// checkPart wants a part to have as many sums as the parameters have elements, and the node of its loss to be there.
func (n net) checkPart(loss int, x api.Part) api.Errno {
	switch {
	case !n.has(loss):
		return api.ErrNode
	case len(n.params) != len(x.Grads):
		return api.ErrParam
	case !inForm(x):
		return api.ErrArg
	}
	for i, sums := range x.Grads {
		if s := n.param(i); s.Rows*s.Cols != len(sums) {
			return api.ErrShape
		}
	}
	return api.OK
}

// differs tells whether two shapes differ: in their width, else in their rows or columns.
func differs(a, b api.Shape) api.Errno {
	switch {
	case a.Width != b.Width:
		return api.ErrWidth
	case a != b:
		return api.ErrShape
	}
	return api.OK
}
