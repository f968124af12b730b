package reverse

import (
	"pupil/acc"
	"pupil/api"
	"pupil/kernel"
	"pupil/sure"
	"pupil/tensor"
)

// step is what a rule is given: a node, its value and its adjoint, and, of the nodes that it takes, the values, and the sums that it brings something to. All matrices are finite. Where two places take one node, both have its sums.
type step struct {
	node           api.Node
	value, adjoint api.Matrix
	in             []api.Matrix
	onto           [][]api.Acc
}

// add brings something to an element of what stands at a place.
func (s step) add(place, at int, part api.Acc) {
	onto := s.onto[place]
	onto[at], _ = acc.Merge(onto[at], part) // Sums of finite floats' products are never too long.
}

// element is one of a node's elements, as exact numbers: what it takes at its first and its second place, its value and its adjoint. Where it takes one alone, the second is that one too.
type element struct{ x, u, y, g api.Num }

// element tells that of a row and a column.
func (s step) element(r, c int) element {
	last := s.in[len(s.in)-1]
	return element{x: number(s.in[0], r, c), u: number(last, r, c), y: number(s.value, r, c), g: number(s.adjoint, r, c)}
}

// spot tells where the element of a matrix stands that comes to a row and a column, where it is stretched.
func spot(m api.Matrix, r, c int) int { return r%m.Rows*m.Cols + c%m.Cols }

// number tells that element.
func number(m api.Matrix, r, c int) api.Num { return sure.Of(m.Bits[spot(m, r, c)], m.Width) }

// rowOf tells a row of a matrix.
func rowOf(m api.Matrix, r int) []int { return m.Bits[r*m.Cols : (r+1)*m.Cols] }

// part is what an element brings to one that it takes; w is its node's width.
type part func(e element, w int) api.Acc

// exactly is the part of an exact number.
func exactly(f func(e element) api.Num) part {
	return func(e element, _ int) api.Acc { return api.Acc{Sum: f(e)} }
}

// divided is the part of an exact quotient, which is rounded ahead of the sum.
func divided(f func(e element) (over, under api.Num)) part {
	return func(e element, w int) api.Acc {
		over, under := f(e)
		sum, _ := acc.Of(sure.Quot(over, under, w), w)
		return sum
	}
}

func given(e element, _ int) api.Acc  { return api.Acc{Sum: e.g} }
func turned(e element, _ int) api.Acc { return api.Acc{Sum: sure.Neg(e.g)} }
func valued(e element, _ int) api.Acc { return api.Acc{Sum: sure.Mul(e.g, e.y)} }

// each is the rule with a part for each place. It goes over the greater one of what is taken and what came of it: either may be stretched to the other, as a sum's adjoint is to what was summed.
func each(parts ...part) func(s step) {
	return func(s step) {
		for r := range max(s.value.Rows, s.in[0].Rows) {
			for c := range max(s.value.Cols, s.in[0].Cols) {
				e := s.element(r, c)
				for place, told := range parts {
					s.add(place, spot(s.in[place], r, c), told(e, s.value.Width))
				}
			}
		}
	}
}

// softplus has the rule of OpExp, with the sigmoid for the value.
func softplus(s step) {
	s.value, _ = kernel.Do(api.OpSigmoid, 0, 0, s.in)
	each(valued)(s)
}

// mean brings to each its share.
func mean(s step) {
	count := sure.Int(len(s.in[0].Bits))
	each(divided(func(e element) (api.Num, api.Num) { return e.g, count }))(s)
}

// greatest brings to each row's place.
func greatest(s step) {
	places, _ := kernel.Places(s.in[0])
	for r, c := range places {
		s.add(0, spot(s.in[0], r, c), api.Acc{Sum: number(s.adjoint, r, 0)})
	}
}

// home is where an element stands that was moved: at which place of the node, and where in it.
type home struct{ place, at int }

// moved brings to each element from where it came to. The operation itself tells where that is: it moves, as bits, the elements' numbers.
func moved(s step) {
	var homes []home
	numbered := make([]api.Matrix, len(s.in))
	for place, m := range s.in {
		numbered[place] = api.Matrix{Rows: m.Rows, Cols: m.Cols, Width: 64}
		for at := range m.Bits {
			numbered[place].Bits = append(numbered[place].Bits, len(homes))
			homes = append(homes, home{place, at})
		}
	}
	came, _ := kernel.Do(s.node.Op, s.node.A, s.node.B, numbered)
	for i, number := range came.Bits {
		from := homes[number]
		s.add(from.place, from.at, api.Acc{Sum: sure.Of(s.adjoint.Bits[i], s.adjoint.Width)})
	}
}

// product brings to the first the products of the adjoint's rows with the second's, and to the second those of the first's columns with the adjoint's.
func product(s step) {
	first, _ := tensor.Turn(s.in[0])
	adjoint, _ := tensor.Turn(s.adjoint)
	for place, sums := range [][]api.Acc{dots(s.adjoint, s.in[1]), dots(first, adjoint)} {
		for at, sum := range sums {
			s.add(place, at, sum)
		}
	}
}

// softmax weighs by the value what is left of the adjoint, without the weighed sum of its row.
func softmax(s step) {
	for r := range s.value.Rows {
		sum, _ := acc.Products(rowOf(s.value, r), rowOf(s.adjoint, r), s.value.Width)
		for c := range s.value.Cols {
			left := sure.Sub(number(s.adjoint, r, c), sum.Sum)
			s.add(0, spot(s.value, r, c), api.Acc{Sum: sure.Mul(number(s.value, r, c), left)})
		}
	}
}

// logSoft takes from the adjoint the row's sum, weighed by the value's powers.
func logSoft(s step) {
	powers, _ := kernel.Do(api.OpExp, 0, 0, []api.Matrix{s.value})
	for r := range s.value.Rows {
		sum, _ := acc.Total(rowOf(s.adjoint, r), s.value.Width)
		for c := range s.value.Cols {
			weighed := sure.Mul(number(powers, r, c), sum.Sum)
			s.add(0, spot(s.value, r, c), api.Acc{Sum: sure.Sub(number(s.adjoint, r, c), weighed)})
		}
	}
}
