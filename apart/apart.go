// Package apart makes plain things once more, in memory of their own: no list of what it tells is shared with what it was given, nor with another list of it.
package apart

import (
	"slices"

	"pupil/api"
)

// Matrix makes the same matrix.
func Matrix(m api.Matrix) api.Matrix {
	m.Bits = slices.Clone(m.Bits)
	return m
}

// Matrices makes the same matrices.
func Matrices(l []api.Matrix) []api.Matrix { return each(l, Matrix) }

// Tape makes the same tape.
func Tape(t api.Tape) api.Tape { return api.Tape{Nodes: each(t.Nodes, Node)} }

// Node makes the same node.
func Node(n api.Node) api.Node {
	n.In, n.Bits = slices.Clone(n.In), slices.Clone(n.Bits)
	return n
}

// Plan makes the same plan.
func Plan(p api.Plan) api.Plan {
	p.Tape, p.Inits = Tape(p.Tape), slices.Clone(p.Inits)
	return p
}

// Set makes the same set.
func Set(s api.Set) api.Set { return api.Set{X: Matrix(s.X), Y: Matrix(s.Y)} }

// State makes the same state.
func State(x api.State) api.State {
	x.Params, x.Slots = Matrices(x.Params), each(x.Slots, Matrices)
	return x
}

// Part makes the same part.
func Part(x api.Part) api.Part {
	x.Rows, x.Loss, x.Grads = slices.Clone(x.Rows), sum(x.Loss), each(x.Grads, sums)
	return x
}

func sums(l []api.Acc) []api.Acc { return each(l, sum) }

func sum(a api.Acc) api.Acc {
	a.Sum.Mag = slices.Clone(a.Sum.Mag)
	return a
}

// each makes a list of what is made of each thing of another one.
func each[T any](l []T, again func(T) T) []T {
	made := make([]T, len(l))
	for i, x := range l {
		made[i] = again(x)
	}
	return made
}
