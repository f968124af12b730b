package reverse

import (
	"pupil/acc"
	"pupil/api"
	"pupil/tensor"
)

// walk is a way back over a tape: the nodes that wait to be told, and of each what was brought to its elements so far. A node is told behind all that take it, as these have greater numbers.
type walk struct {
	nodes  []api.Node
	values []api.Matrix
	waits  pile[int]
	sums   map[int][]api.Acc
}

// begin tells the way back from a node, to which a seed was brought.
func begin(t api.Tape, values []api.Matrix, node int, seed api.Matrix) *walk {
	w := &walk{nodes: t.Nodes, values: values, sums: map[int][]api.Acc{}}
	onto := w.waiting(node)
	for i, b := range seed.Bits {
		onto[i], _ = acc.Of(b, seed.Width)
	}
	return w
}

// waiting tells the sums of a node, which waits from then on.
func (w *walk) waiting(node int) []api.Acc {
	sums, there := w.sums[node]
	if !there {
		sums = make([]api.Acc, len(w.values[node].Bits))
		w.sums[node] = sums
		w.waits.put(node)
	}
	return sums
}

// back tells the adjoints of the nodes that wait, and of all that these hang on.
func (w *walk) back() ([]api.Matrix, api.Fault) {
	adjoints := make([]api.Matrix, len(w.nodes))
	for {
		node, more := w.waits.take()
		if !more {
			return adjoints, api.Fault{}
		}
		m := w.told(node)
		if at, e := tensor.Finite(m); e != api.OK {
			return nil, api.Fault{Err: e, Node: node, At: at}
		}
		adjoints[node] = m
		w.bring(node, m)
	}
}

// told rounds the sums of a node, which are done with.
func (w *walk) told(node int) api.Matrix {
	m := w.values[node]
	m.Bits = make([]int, len(m.Bits))
	for i, sum := range w.sums[node] {
		m.Bits[i], _ = acc.Round(sum, m.Width)
	}
	delete(w.sums, node)
	return m
}

// bring brings what a node's adjoint makes to those that the node takes.
func (w *walk) bring(node int, adjoint api.Matrix) {
	n := w.nodes[node]
	if len(n.In) == 0 {
		return
	}
	s := step{node: n, value: w.values[node], adjoint: adjoint}
	for _, from := range n.In {
		s.in = append(s.in, w.values[from])
		s.onto = append(s.onto, w.waiting(from))
	}
	ruleOf(n.Op)(s)
}
