package kernel

import (
	"pupil/api"
	"pupil/tensor"
)

// The shapes that come out of one matrix.
func itself(s api.Shape) api.Shape    { return s }
func oneNumber(s api.Shape) api.Shape { return api.Shape{Rows: 1, Cols: 1, Width: s.Width} }
func oneColumn(s api.Shape) api.Shape { return api.Shape{Rows: s.Rows, Cols: 1, Width: s.Width} }
func oneRow(s api.Shape) api.Shape    { return api.Shape{Rows: 1, Cols: s.Cols, Width: s.Width} }

// alone is an operation that takes any one matrix.
func alone(shape func(s api.Shape) api.Shape, reckon func(m api.Matrix) []int) operation {
	return operation{
		takes:  1,
		shape:  func(in []api.Shape) (api.Shape, api.Errno) { return shape(in[0]), api.OK },
		reckon: func(in []api.Matrix, _ api.Shape) []int { return reckon(in[0]) },
	}
}

// each is an operation on each element by itself.
func each(f func(b, w int) int) operation {
	return alone(itself, func(m api.Matrix) []int { return eachOf(m.Bits, m.Width, f) })
}

// eachOf does something to each of a list.
func eachOf(list []int, w int, f func(b, w int) int) []int {
	made := make([]int, len(list))
	for i, b := range list {
		made[i] = f(b, w)
	}
	return made
}

// sure tells what a call answers that refuses no bits of a width.
func sure(f func(b, w int) (int, api.Errno)) func(b, w int) int {
	return func(b, w int) int {
		y, _ := f(b, w)
		return y
	}
}

// relu is the operation that lets through what is above 0.
func relu() operation {
	return alone(itself, func(m api.Matrix) []int { return heights().by(m.Bits, 0, m.Width) })
}

// converted tells a matrix of one width in the other one.
func converted(from, to int) operation {
	other := func(s api.Shape) api.Shape { return api.Shape{Rows: s.Rows, Cols: s.Cols, Width: to} }
	o := alone(other, func(m api.Matrix) []int { return elements(tensor.Convert(m, to)) })
	o.width = from
	return o
}

// elements tells those of a matrix that a call has answered, where it is known not to refuse.
func elements(m api.Matrix, _ api.Errno) []int { return m.Bits }

// both is a single operation on two matrices that are stretched to one shape.
func both(f single) operation {
	return operation{
		takes: 2,
		shape: func(in []api.Shape) (api.Shape, api.Errno) { return tensor.Both(in[0], in[1]) },
		reckon: func(in []api.Matrix, s api.Shape) []int {
			x, y := elements(tensor.Stretch(in[0], s.Rows, s.Cols)), elements(tensor.Stretch(in[1], s.Rows, s.Cols))
			return f.of(x, y, s.Width)
		},
	}
}

// productOf is the product of two matrices.
func productOf() operation {
	return operation{
		takes: 2,
		shape: func(in []api.Shape) (api.Shape, api.Errno) {
			if in[0].Cols != in[1].Rows {
				return api.Shape{}, api.ErrShape
			}
			// It has the rows of the one and the columns of the other, as a column and a row that are stretched.
			return tensor.Both(oneColumn(in[0]), oneRow(in[1]))
		},
		reckon: func(in []api.Matrix, _ api.Shape) []int { return multiplied(in[0], in[1]) },
	}
}

// turn exchanges rows and columns.
func turn() operation {
	return alone(tensor.Turned, func(m api.Matrix) []int { return elements(tensor.Turn(m)) })
}

// moved is a call of one matrix and two numbers.
func moved(shape func(s api.Shape, a, b int) (api.Shape, api.Errno), move func(m api.Matrix, a, b int) (api.Matrix, api.Errno), a, b int) operation {
	return operation{
		takes:   1,
		numbers: true,
		shape:   func(in []api.Shape) (api.Shape, api.Errno) { return shape(in[0], a, b) },
		reckon:  func(in []api.Matrix, _ api.Shape) []int { return elements(move(in[0], a, b)) },
	}
}

// glued is a call of one or more matrices.
func glued(shape func(l []api.Shape) (api.Shape, api.Errno), glue func(l []api.Matrix) (api.Matrix, api.Errno)) operation {
	return operation{
		shape:  shape,
		reckon: func(in []api.Matrix, _ api.Shape) []int { return elements(glue(in)) },
	}
}
