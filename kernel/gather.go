package kernel

import (
	"slices"

	"pupil/acc"
	"pupil/api"
	"pupil/bits"
	"pupil/elem"
	"pupil/tensor"
)

// rows goes over the rows, and tells what comes of all of them in one list.
func rows(f func(row []int, w int) []int) func(m api.Matrix) []int {
	return func(m api.Matrix) []int {
		var list []int
		for row := range slices.Chunk(m.Bits, m.Cols) {
			list = append(list, f(row, m.Width)...)
		}
		return list
	}
}

// columns goes over the columns likewise.
func columns(f func(col []int, w int) []int) func(m api.Matrix) []int {
	return func(m api.Matrix) []int {
		t, _ := tensor.Turn(m)
		return rows(f)(t)
	}
}

// all takes all elements as one row.
func all(f func(list []int, w int) []int) func(m api.Matrix) []int {
	return func(m api.Matrix) []int { return f(m.Bits, m.Width) }
}

// total tells the sum of a list, rounded once.
func total(list []int, w int) []int {
	s, _ := acc.Sum(list, w)
	return []int{s}
}

// mean tells the sum of a list by how many there are, rounded once.
func mean(list []int, w int) []int {
	a, _ := acc.Total(list, w)
	b, _ := acc.Mean(a, len(list), w)
	return []int{b}
}

// greatest tells the greatest of a row: what is no number by its one pattern.
func greatest(row []int, w int) []int {
	return []int{bits.Convert(row[place(row, w)], w, w)}
}

// below tells each of a row less the greatest of it, so that no power of these is great.
func below(row []int, w int) []int {
	return differences().by(row, greatest(row, w)[0], w)
}

// powers tells e to each of a list, and the sum of these.
func powers(list []int, w int) ([]int, int) {
	e := eachOf(list, w, sure(elem.Exp))
	return e, total(e, w)[0]
}

// softmax tells of each of a row its share in the sum of all powers.
func softmax(row []int, w int) []int {
	e, s := powers(below(row, w), w)
	return quotients().by(e, s, w)
}

// logSoft tells the logarithms of these shares, without the shares, which may round to 0.
func logSoft(row []int, w int) []int {
	x := below(row, w)
	_, s := powers(x, w)
	return differences().by(x, sure(elem.Log)(s, w), w)
}

// multiplied tells the elements of the product of two matrices, row by row.
func multiplied(x, y api.Matrix) []int {
	list := make([]int, 0, x.Rows*y.Cols)
	t, _ := tensor.Turn(y)
	for row := range slices.Chunk(x.Bits, x.Cols) {
		for col := range slices.Chunk(t.Bits, t.Cols) {
			dot, _ := acc.Dot(row, col, x.Width)
			list = append(list, dot)
		}
	}
	return list
}
