package tensor

import (
	"pupil/api"
	"pupil/bits"
)

// shapeOf tells a matrix's shape.
func shapeOf(m api.Matrix) api.Shape {
	return api.Shape{Rows: m.Rows, Cols: m.Cols, Width: m.Width}
}

// Shapes tells the shapes of many.
func Shapes(l []api.Matrix) []api.Shape {
	shapes := make([]api.Shape, len(l))
	for i, m := range l {
		shapes[i] = shapeOf(m)
	}
	return shapes
}

// CheckShape tells whether a matrix can have a shape. The rules below that tell what comes out are for such shapes.
func CheckShape(s api.Shape) api.Errno {
	if !bits.Valid(0, s.Width) {
		return api.ErrWidth
	}
	if min(s.Rows, s.Cols) < 1 {
		return api.ErrShape
	}
	return checkRoom(s)
}

// checkRoom tells whether a shape of at least one row and one column has too many elements. It divides, since the product may go round.
func checkRoom(s api.Shape) api.Errno {
	if s.Rows > api.MaxElems/s.Cols {
		return api.ErrLong
	}
	return api.OK
}

// roomy tells a shape, unless it has too many elements.
func roomy(s api.Shape) (api.Shape, api.Errno) {
	if e := checkRoom(s); e != api.OK {
		return api.Shape{}, e
	}
	return s, api.OK
}

// Both tells the shape that two matrices stretch to.
func Both(a, b api.Shape) (api.Shape, api.Errno) {
	if !bits.Valid(0, a.Width) || a.Width != b.Width {
		return api.Shape{}, api.ErrWidth
	}
	if !share(a.Rows, b.Rows) || !share(a.Cols, b.Cols) {
		return api.Shape{}, api.ErrShape
	}
	return roomy(api.Shape{Rows: max(a.Rows, b.Rows), Cols: max(a.Cols, b.Cols), Width: a.Width})
}

// share tells whether there is a number of rows (of columns) to which both stretch.
func share(x, y int) bool {
	least := min(x, y)
	return least == 1 || least > 1 && least == max(x, y)
}

// stretched tells the shape of what Stretch makes.
func stretched(s api.Shape, rows, cols int) (api.Shape, api.Errno) {
	if !stretches(s.Rows, rows) || !stretches(s.Cols, cols) {
		return api.Shape{}, api.ErrShape
	}
	return roomy(api.Shape{Rows: rows, Cols: cols, Width: s.Width})
}

// stretches tells whether so many rows (columns) can become others.
func stretches(from, to int) bool { return to == from || from == 1 && to >= 1 }

// Turned tells the shape of what Turn makes.
func Turned(s api.Shape) api.Shape {
	return api.Shape{Rows: s.Cols, Cols: s.Rows, Width: s.Width}
}

// Formed tells the shape of what Form makes.
func Formed(s api.Shape, rows, cols int) (api.Shape, api.Errno) {
	to := api.Shape{Rows: rows, Cols: cols, Width: s.Width}
	if CheckShape(to) != api.OK || rows*cols != s.Rows*s.Cols {
		return api.Shape{}, api.ErrShape
	}
	return to, api.OK
}

// ColsCut tells the shape of what CutCols makes.
func ColsCut(s api.Shape, from, to int) (api.Shape, api.Errno) {
	if from < 0 || to > s.Cols || from >= to {
		return api.Shape{}, api.ErrIndex
	}
	return api.Shape{Rows: s.Rows, Cols: to - from, Width: s.Width}, api.OK
}

// RowsCut tells the shape of what CutRows makes: CutCols's, with rows for columns.
func RowsCut(s api.Shape, from, to int) (api.Shape, api.Errno) {
	s, e := ColsCut(Turned(s), from, to)
	return Turned(s), e
}

// ColsGlued tells the shape of what GlueCols makes of one or more.
func ColsGlued(l []api.Shape) (api.Shape, api.Errno) {
	for _, s := range l {
		if s.Width != l[0].Width {
			return api.Shape{}, api.ErrWidth
		}
	}
	cols := 0
	for _, s := range l {
		if s.Rows != l[0].Rows {
			return api.Shape{}, api.ErrShape
		}
		cols += s.Cols
	}
	return roomy(api.Shape{Rows: l[0].Rows, Cols: cols, Width: l[0].Width})
}

// RowsGlued tells the shape of what GlueRows makes of one or more: GlueCols's, with rows for columns.
func RowsGlued(l []api.Shape) (api.Shape, api.Errno) {
	aside := make([]api.Shape, len(l))
	for i, s := range l {
		aside[i] = Turned(s)
	}
	s, e := ColsGlued(aside)
	return Turned(s), e
}

// Windowed tells the shape of what Window makes.
func Windowed(s api.Shape, size, step int) (api.Shape, api.Errno) {
	if s.Rows > 1 {
		return api.Shape{}, api.ErrShape
	}
	if min(size, step) < 1 {
		return api.Shape{}, api.ErrArg
	}
	if size > s.Cols {
		return api.Shape{}, api.ErrShape
	}
	return roomy(api.Shape{Rows: (s.Cols-size)/step + 1, Cols: size, Width: s.Width})
}
