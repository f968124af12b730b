package tensor

import (
	"iter"

	"pupil/api"
)

// rowOf tells a row. It ends where the row does, spare room too, so that nothing appended to it could reach the next one.
func rowOf(m api.Matrix, r int) []int {
	from, to := r*m.Cols, (r+1)*m.Cols
	return m.Bits[from:to:to]
}

// rowsOf goes over the rows, each with its number.
func rowsOf(m api.Matrix) iter.Seq2[int, []int] {
	return func(yield func(int, []int) bool) {
		for r := range m.Rows {
			if !yield(r, rowOf(m, r)) {
				return
			}
		}
	}
}

// bare makes an empty list that has room for a matrix of a shape.
func bare(s api.Shape) []int { return make([]int, 0, s.Rows*s.Cols) }

// Stretch repeats rows or columns.
func Stretch(m api.Matrix, rows, cols int) (api.Matrix, api.Errno) {
	if e := Check(m); e != api.OK {
		return api.Matrix{}, e
	}
	s, e := stretched(shapeOf(m), rows, cols)
	if e != api.OK {
		return api.Matrix{}, e
	}
	wide := bare(s)
	for _, row := range rowsOf(m) {
		for range cols / m.Cols {
			wide = append(wide, row...)
		}
	}
	list := bare(s)
	for range rows / m.Rows {
		list = append(list, wide...)
	}
	return matrix(s, list), api.OK
}

// Turn exchanges rows and columns.
func Turn(m api.Matrix) (api.Matrix, api.Errno) {
	if e := Check(m); e != api.OK {
		return api.Matrix{}, e
	}
	list := make([]int, len(m.Bits))
	for r, row := range rowsOf(m) {
		for c, b := range row {
			list[c*m.Rows+r] = b
		}
	}
	return matrix(Turned(shapeOf(m)), list), api.OK
}

// Form gives other rows and columns.
func Form(m api.Matrix, rows, cols int) (api.Matrix, api.Errno) {
	if e := Check(m); e != api.OK {
		return api.Matrix{}, e
	}
	s, e := Formed(shapeOf(m), rows, cols)
	if e != api.OK {
		return api.Matrix{}, e
	}
	return matrix(s, append(bare(s), m.Bits...)), api.OK
}

// CutCols tells some columns.
func CutCols(m api.Matrix, from, to int) (api.Matrix, api.Errno) {
	if e := Check(m); e != api.OK {
		return api.Matrix{}, e
	}
	s, e := ColsCut(shapeOf(m), from, to)
	if e != api.OK {
		return api.Matrix{}, e
	}
	list := bare(s)
	for _, row := range rowsOf(m) {
		list = append(list, row[from:to:to]...)
	}
	return matrix(s, list), api.OK
}

// CutRows tells some rows.
func CutRows(m api.Matrix, from, to int) (api.Matrix, api.Errno) {
	if e := Check(m); e != api.OK {
		return api.Matrix{}, e
	}
	s, e := RowsCut(shapeOf(m), from, to)
	if e != api.OK {
		return api.Matrix{}, e
	}
	list := bare(s)
	for r := range s.Rows {
		list = append(list, rowOf(m, from+r)...)
	}
	return matrix(s, list), api.OK
}

// checkAll tells the error of the first matrix that is not in form, and whether there is one at all.
func checkAll(l []api.Matrix) api.Errno {
	if len(l) == 0 {
		return api.ErrArg
	}
	for _, m := range l {
		if e := Check(m); e != api.OK {
			return e
		}
	}
	return api.OK
}

// GlueCols joins matrices, side by side.
func GlueCols(l []api.Matrix) (api.Matrix, api.Errno) {
	if e := checkAll(l); e != api.OK {
		return api.Matrix{}, e
	}
	s, e := ColsGlued(Shapes(l))
	if e != api.OK {
		return api.Matrix{}, e
	}
	list := bare(s)
	for r := range s.Rows {
		for _, m := range l {
			list = append(list, rowOf(m, r)...)
		}
	}
	return matrix(s, list), api.OK
}

// GlueRows joins matrices, one below the other.
func GlueRows(l []api.Matrix) (api.Matrix, api.Errno) {
	if e := checkAll(l); e != api.OK {
		return api.Matrix{}, e
	}
	s, e := RowsGlued(Shapes(l))
	if e != api.OK {
		return api.Matrix{}, e
	}
	list := bare(s)
	for _, m := range l {
		list = append(list, m.Bits...)
	}
	return matrix(s, list), api.OK
}

// Window tells windows of one row.
func Window(m api.Matrix, size, step int) (api.Matrix, api.Errno) {
	if e := Check(m); e != api.OK {
		return api.Matrix{}, e
	}
	s, e := Windowed(shapeOf(m), size, step)
	if e != api.OK {
		return api.Matrix{}, e
	}
	list := bare(s)
	for i := range s.Rows {
		from, to := i*step, i*step+size
		list = append(list, m.Bits[from:to:to]...)
	}
	return matrix(s, list), api.OK
}
