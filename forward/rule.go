package forward

import (
	"slices"

	"pupil/acc"
	"pupil/api"
	"pupil/bits"
	"pupil/kernel"
	"pupil/sure"
	"pupil/tensor"
)

// step is what a rule is given: a node, its value, and, of the nodes that it takes, the values and the tangents. All of it is finite.
type step struct {
	node      api.Node
	value     api.Matrix
	in, along []api.Matrix
}

// element is one of a node's elements, as exact numbers: what it takes at its first and its second place, itself, and the tangents of what it takes. Where it takes one alone, the second is that one too.
type element struct{ x, u, y, dx, du api.Num }

// element tells that of a row and a column.
func (s step) element(r, c int) element {
	last := len(s.in) - 1
	return element{
		x: number(s.in[0], r, c), dx: number(s.along[0], r, c),
		u: number(s.in[last], r, c), du: number(s.along[last], r, c),
		y: number(s.value, r, c),
	}
}

// number tells the element of a matrix that comes to a row and a column, where it is stretched.
func number(m api.Matrix, r, c int) api.Num { return sure.Of(rowOf(m, r%m.Rows)[c%m.Cols], m.Width) }

// rowOf tells a row of a matrix.
func rowOf(m api.Matrix, r int) []int { return m.Bits[r*m.Cols : (r+1)*m.Cols] }

// each tells something of each element.
func (s step) each(told func(e element) int) []int {
	list := make([]int, 0, len(s.value.Bits))
	for r := range s.value.Rows {
		for c := range s.value.Cols {
			list = append(list, told(s.element(r, c)))
		}
	}
	return list
}

// rounded is the rule of an exact number for each element.
func rounded(f func(e element) api.Num) func(s step) []int {
	return func(s step) []int {
		return s.each(func(e element) int { return sure.Round(f(e), s.value.Width) })
	}
}

// divided is the rule of an exact quotient for each element.
func divided(f func(e element) (over, under api.Num)) func(s step) []int {
	return func(s step) []int {
		return s.each(func(e element) int {
			over, under := f(e)
			return sure.Quot(over, under, s.value.Width)
		})
	}
}

// linear is the rule of sums, moves and conversions: the operation itself, of the tangents. It rounds once; but of single operations it tells -0.
func linear(s step) []int {
	m, _ := kernel.Do(s.node.Op, s.node.A, s.node.B, s.along) // The tangents fit as the values do.
	return plain(m.Bits, m.Width)
}

// plain tells 0 for -0.
func plain(list []int, w int) []int {
	for i, b := range list {
		list[i] = bits.Canon(b, w)
	}
	return list
}

// valued is the tangent, where the local derivative is the value itself.
func valued(e element) api.Num { return sure.Mul(e.y, e.dx) }

// softplus has the rule of OpExp, with the sigmoid for the value.
func softplus(s step) []int {
	s.value, _ = kernel.Do(api.OpSigmoid, 0, 0, s.in)
	return rounded(valued)(s)
}

// product adds, for each element, the products of both rows and both columns in one sum.
func product(s step) []int {
	u, _ := tensor.Turn(s.in[1])
	du, _ := tensor.Turn(s.along[1])
	list := make([]int, 0, len(s.value.Bits))
	for r := range s.value.Rows {
		across := slices.Concat(rowOf(s.along[0], r), rowOf(s.in[0], r))
		for c := range s.value.Cols {
			down := slices.Concat(rowOf(u, c), rowOf(du, c))
			dot, _ := acc.Dot(across, down, s.value.Width)
			list = append(list, dot)
		}
	}
	return list
}

// greatest takes the tangent at each row's place.
func greatest(s step) []int {
	places, _ := kernel.Places(s.in[0])
	list := make([]int, 0, len(places))
	for r := range len(places) {
		list = append(list, rowOf(s.along[0], r)[places[r]])
	}
	return plain(list, s.value.Width)
}

// softmax weighs by the value, and so again what is left.
func softmax(s step) []int {
	return s.centred(s.value, sure.Mul)
}

// logSoft weighs by the value's powers.
func logSoft(s step) []int {
	powers, _ := kernel.Do(api.OpExp, 0, 0, []api.Matrix{s.value})
	return s.centred(powers, func(_, left api.Num) api.Num { return left })
}

// centred tells, row by row, what comes of each weight and of its tangent less the weighed sum of all tangents.
func (s step) centred(weights api.Matrix, told func(weight, left api.Num) api.Num) []int {
	along, w := s.along[0], s.value.Width
	list := make([]int, 0, len(s.value.Bits))
	for r := range s.value.Rows {
		sum, _ := acc.Products(rowOf(weights, r), rowOf(along, r), w)
		for c := range s.value.Cols {
			left := sure.Sub(number(along, r, c), sum.Sum)
			list = append(list, sure.Round(told(number(weights, r, c), left), w))
		}
	}
	return list
}
