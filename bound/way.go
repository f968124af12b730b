package bound

import (
	"pupil/api"
	"pupil/sure"
)

// way is one of both ways over a node: ahead to its own spans, or back to those of the nodes that it takes. What a node's elements are made of is the same on both.
type way interface {
	ahead | back
	bring(to int, x expression)
	mix(rows mixture)
}

// over goes over a node, element by element, or, where each element takes its whole row, row by row.
func over[W way](w W, s step) {
	r := rowOf(s.node.Op)
	if r.mixed != nil {
		w.mix(r.mixed(s))
		return
	}
	told := r.expressions(s)
	for to := range len(s.value.Bits) {
		w.bring(to, told(to))
	}
}

// ahead goes from the spans of what is taken, which all have one width, to the node's, which is told in its own.
type ahead struct {
	taken       [][]api.Span
	from, width int
	told        []api.Span
}

// bring makes one span of all terms.
func (a ahead) bring(to int, x expression) {
	var sum ends
	for at, c := range x.terms {
		if s := a.taken[at[0]][at[1]]; s != (api.Span{}) { // The point 0 brings nothing.
			sum = sum.plus(endsOf(s, a.from).times(c))
		}
	}
	a.told[to] = sum.outward(x.by, a.width)
}

func (a ahead) mix(rows mixture) {
	for to, sum := range rows.sums(a.taken[0], a.from) {
		a.told[to] = sum.outward(api.Num{}, a.width)
	}
}

// back goes from the node's spans to the sums, not yet rounded, of what is taken.
type back struct {
	spans []api.Span
	width int
	onto  [][]ends
}

// bring brings each term to its own element. A quotient is rounded ahead of the sum.
func (b back) bring(to int, x expression) {
	if b.spans[to] == (api.Span{}) {
		return
	}
	from := endsOf(b.spans[to], b.width)
	for at, c := range x.terms {
		part := from.times(c)
		if sure.Sign(x.by) != 0 {
			part = endsOf(part.outward(x.by, b.width), b.width)
		}
		b.add(at, part)
	}
}

func (b back) mix(rows mixture) {
	for i, sum := range rows.turned().sums(b.spans, b.width) {
		b.add(spot{0, i}, sum)
	}
}

// add brings something to an element.
func (b back) add(at spot, part ends) {
	onto := b.onto[at[0]]
	onto[at[1]] = onto[at[1]].plus(part)
}
