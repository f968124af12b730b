package bound

import (
	"pupil/api"
	"pupil/span"
)

// points tells the spans of a finite matrix.
func points(m api.Matrix) []api.Span {
	spans := make([]api.Span, len(m.Bits))
	for i, b := range m.Bits {
		spans[i], _ = span.Of(b, m.Width)
	}
	return spans
}

// taken tells those of a list, one for each node, that a node takes.
func taken[T any](n api.Node, list []T) []T {
	in := make([]T, len(n.In))
	for i, node := range n.In {
		in[i] = list[node]
	}
	return in
}

// aheadOver tells the spans of all tangents, of a right tape; those of leaves are given.
func aheadOver(t api.Tape, values, tangents []api.Matrix) [][]api.Span {
	spans := make([][]api.Span, len(t.Nodes))
	for node, n := range t.Nodes {
		if len(n.In) == 0 {
			spans[node] = points(tangents[node])
			continue
		}
		s := step{node: n, value: values[node], in: taken(n, values)}
		spans[node] = make([]api.Span, len(s.value.Bits))
		over(ahead{taken: taken(n, spans), from: s.in[0].Width, width: s.value.Width, told: spans[node]}, s)
	}
	return spans
}

// backOver tells the spans of all adjoints, of a right tape. Each node is told behind all that take it, as these have greater numbers.
func backOver(t api.Tape, values []api.Matrix, node int, seed api.Matrix) [][]api.Span {
	sums := make([][]ends, len(t.Nodes)) // nil: the node does not hang on it
	sums[node] = make([]ends, len(seed.Bits))
	for i, s := range points(seed) {
		sums[node][i] = endsOf(s, seed.Width)
	}
	spans := make([][]api.Span, len(t.Nodes))
	for i := len(spans) - 1; i >= 0; i-- {
		spans[i] = make([]api.Span, len(values[i].Bits))
		for k, sum := range sums[i] {
			spans[i][k] = sum.outward(api.Num{}, values[i].Width)
		}
		if n := t.Nodes[i]; sums[i] != nil && len(n.In) > 0 {
			s := step{node: n, value: values[i], in: taken(n, values)}
			over(back{spans: spans[i], width: s.value.Width, onto: waiting(n, values, sums)}, s)
		}
		sums[i] = nil
	}
	return spans
}

// waiting tells the sums of the nodes that a node takes, which it hangs on from then on. Where two places take one node, both have its sums.
func waiting(n api.Node, values []api.Matrix, sums [][]ends) [][]ends {
	for _, node := range n.In {
		if sums[node] == nil {
			sums[node] = make([]ends, len(values[node].Bits))
		}
	}
	return taken(n, sums)
}
