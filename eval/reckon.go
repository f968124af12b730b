package eval

import (
	"cmp"
	"iter"
	"slices"

	"pupil/api"
	"pupil/kernel"
)

// reckoned tells the values of nodes one by one, each in new memory; leaves has, at the nodes of inputs and parameters, what these are.
// A value is reckoned when it is asked for, so that nothing is made behind one at which the asking ends: whoever asks on has found all values so far in form and finite.
func reckoned(nodes []api.Node, leaves []api.Matrix) iter.Seq2[int, api.Matrix] {
	return func(yield func(int, api.Matrix) bool) {
		values := make([]api.Matrix, 0, len(nodes))
		for node, n := range nodes {
			m := value(n, leaves[node], values[:node:node])
			values = append(values, m)
			if !yield(node, m) {
				return
			}
		}
	}
}

// value tells a node's value: a leaf's is itself, a constant's its own, another one's comes from the values ahead of it.
func value(n api.Node, leaf api.Matrix, ahead []api.Matrix) api.Matrix {
	switch n.Op {
	case api.OpInput, api.OpParam:
		leaf.Bits = slices.Clone(leaf.Bits)
		return leaf
	case api.OpConst:
		return api.Matrix{Rows: n.Rows, Cols: n.Cols, Width: n.Width, Bits: slices.Clone(n.Bits)}
	}
	in := make([]api.Matrix, len(n.In))
	for i, taken := range n.In {
		in[i] = ahead[taken]
	}
	m, _ := kernel.Do(n.Op, n.A, n.B, in) // The tape is right: what is taken fits.
	return m
}

// seat lays matrices at the nodes of an operation, inputs or parameters, by their numbers; each has to fit its node.
func seat(leaves []api.Matrix, nodes []api.Node, shapes []api.Shape, op int, list []api.Matrix) error {
	seats := seated(nodes, op)
	if len(list) != len(seats) {
		return there{len(nodes), stop{err: missing(op)}}
	}
	for number, node := range seats {
		if err := fits(list[number], shapes[node]); err != nil {
			return there{node, err}
		}
		leaves[node] = list[number]
	}
	return nil
}

// seated tells the nodes of an operation by their numbers, of which a right tape misses none.
func seated(nodes []api.Node, op int) []int {
	var list []int
	for node, n := range nodes {
		if n.Op == op {
			list = append(list, node)
		}
	}
	slices.SortFunc(list, func(a, b int) int { return cmp.Compare(nodes[a].A, nodes[b].A) })
	return list
}

// missing tells the error of too few or too many inputs, or parameters.
func missing(op int) api.Errno {
	if op == api.OpInput {
		return api.ErrInput
	}
	return api.ErrParam
}
