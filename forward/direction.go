package forward

import (
	"slices"

	"pupil/api"
	"pupil/tape"
	"pupil/tensor"
)

// direction tells, at the nodes of inputs and parameters, the directions that are given for them, in new memory; of a right tape with its values.
func direction(t api.Tape, values, inputs, params []api.Matrix) ([]api.Matrix, api.Fault) {
	given := make([]api.Matrix, len(values))
	shapes := tensor.Shapes(values)
	nodes, _ := tape.Inputs(t)
	if f := seat(given, shapes, nodes, inputs, api.ErrInput); f != (api.Fault{}) {
		return nil, f
	}
	nodes, _ = tape.Params(t)
	if f := seat(given, shapes, nodes, params, api.ErrParam); f != (api.Fault{}) {
		return nil, f
	}
	return given, api.Fault{}
}

// seat lays a list of directions at nodes, in the order of their numbers; count is the error of too few or too many.
func seat(given []api.Matrix, shapes []api.Shape, nodes []int, list []api.Matrix, count api.Errno) api.Fault {
	if len(list) != len(nodes) {
		return api.Fault{Err: count, Node: len(shapes)}
	}
	for number, node := range nodes {
		m := list[number]
		if e := tensor.Fits(m, shapes[node]); e != api.OK {
			return api.Fault{Err: e, Node: node}
		}
		if at, e := tensor.Finite(m); e != api.OK {
			return api.Fault{Err: e, Node: node, At: at}
		}
		m.Bits = slices.Clone(m.Bits)
		given[node] = m
	}
	return api.Fault{}
}
