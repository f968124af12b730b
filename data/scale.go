package data

import (
	"sync"

	"pupil/acc"
	"pupil/api"
	"pupil/bits"
	"pupil/sure"
	"pupil/tensor"
)

// Scale tells the means and deviations of the columns. Each column has a worker, which writes what it tells at the column's own place.
func Scale(m api.Matrix) (mean, dev api.Matrix, e api.Errno) {
	if _, e := tensor.Finite(m); e != api.OK {
		return api.Matrix{}, api.Matrix{}, e
	}
	mean, _ = tensor.Zero(1, m.Cols, m.Width)
	dev, _ = tensor.Zero(1, m.Cols, m.Width)
	var work sync.WaitGroup
	for c := range m.Cols {
		work.Add(1)
		go func() {
			defer work.Done()
			mean.Bits[c], dev.Bits[c] = measure(columnOf(m, c), m.Width)
		}()
	}
	work.Wait()
	return mean, dev, api.OK
}

// columnOf tells a column, from its first row on.
func columnOf(m api.Matrix, c int) []int {
	column := make([]int, m.Rows)
	for r := range m.Rows {
		column[r] = m.Bits[r*m.Cols+c]
	}
	return column
}

// measure tells the mean and the deviation of finite floats. With n of them, their sum s and that of their squares q, those of what they differ from the mean come to q - s^2 / n: the n-th part of that is (n q - s^2) / n^2, and one root is left to round. Neither is greater than the greatest of them, signs aside, so that no answer is infinite.
func measure(list []int, w int) (mean, dev int) {
	n := sure.Int(len(list))
	sum, _ := acc.Total(list, w)
	squares, _ := acc.Products(list, list, w)
	spread := sure.Sub(sure.Mul(n, squares.Sum), sure.Mul(sum.Sum, sum.Sum))
	return sure.Quot(sum.Sum, n, w), sure.RootQuot(spread, sure.Mul(n, n), w)
}

// Scaled brings columns to the mean 0 and the deviation 1; with an error the first element that can't be.
func Scaled(m, mean, dev api.Matrix) (api.Matrix, int, api.Errno) {
	if e := checkScale(m, mean, dev); e != api.OK {
		return api.Matrix{}, 0, e
	}
	made, _ := tensor.Zero(m.Rows, m.Cols, m.Width)
	for i := range len(made.Bits) {
		c := i % m.Cols
		made.Bits[i] = scaled(m.Bits[i], mean.Bits[c], dev.Bits[c], m.Width)
	}
	if at, e := tensor.Finite(made); e != api.OK {
		return api.Matrix{}, at, e
	}
	return made, 0, api.OK
}

// checkScale tells whether a mean and a deviation can be those of a matrix's columns.
func checkScale(m, mean, dev api.Matrix) api.Errno {
	if e := allFinite(m, mean, dev); e != api.OK {
		return e
	}
	switch {
	case mean.Width != m.Width || dev.Width != m.Width:
		return api.ErrWidth
	case mean.Rows != 1 || dev.Rows != 1 || mean.Cols != m.Cols || dev.Cols != m.Cols:
		return api.ErrShape
	}
	return api.OK
}

// scaled brings one element to its column's scale. A column whose elements are all alike has the deviation 0, and is moved alone.
func scaled(x, mean, dev, w int) int {
	moved := bits.Sub(x, mean, w)
	if bits.Class(dev, w) == api.IsZero {
		return moved
	}
	return bits.Div(moved, dev, w)
}
