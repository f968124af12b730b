package tensor_test

import (
	"math/big"

	"pupil/api"
)

// The calls reckoned once more, plainly: a matrix is a list of rows, products are whole numbers of any length, and floats are told apart by their fields.

// isNone tells whether bits of a width are no number.
func isNone(b, width int) bool {
	if width == 32 {
		return b>>23&0xFF == 0xFF && b&(1<<23-1) != 0
	}
	return b>>52&0x7FF == 0x7FF && b&(1<<52-1) != 0
}

// isInfinite tells whether bits of a width are an infinity.
func isInfinite(b, width int) bool {
	if width == 32 {
		return b == 0x7F800000 || b == 0xFF800000
	}
	return b == 0x7FF0000000000000 || b == -0x0010000000000000
}

// plain tells an element as it is to be answered.
func plain(b, width int) int {
	switch {
	case !isNone(b, width):
		return b
	case width == 32:
		return 0x7FC00001
	}
	return 0x7FF8000000000001
}

// listed tells a matrix as a list of its rows, as they are to be answered.
func listed(m api.Matrix) [][]int {
	rows := make([][]int, m.Rows)
	for i, b := range m.Bits {
		rows[i/m.Cols] = append(rows[i/m.Cols], plain(b, m.Width))
	}
	return rows
}

// unlisted makes a matrix of a list of rows.
func unlisted(rows [][]int, width int) api.Matrix {
	m := api.Matrix{Rows: len(rows), Cols: len(rows[0]), Width: width}
	for _, row := range rows {
		m.Bits = append(m.Bits, row...)
	}
	return m
}

// tooMany tells whether there are more elements than a matrix may have.
func tooMany(rows, cols int) bool {
	return product(rows, cols).Cmp(big.NewInt(4096)) > 0
}

func product(x, y int) *big.Int {
	return new(big.Int).Mul(big.NewInt(int64(x)), big.NewInt(int64(y)))
}

// checkOf tells what is wrong with a matrix.
func checkOf(m api.Matrix) api.Errno {
	switch {
	case m.Width != 32 && m.Width != 64:
		return api.ErrWidth
	case m.Rows < 1 || m.Cols < 1:
		return api.ErrShape
	case tooMany(m.Rows, m.Cols):
		return api.ErrLong
	case product(m.Rows, m.Cols).Cmp(big.NewInt(int64(len(m.Bits)))) != 0:
		return api.ErrShape
	}
	for _, b := range m.Bits {
		if m.Width == 32 && (b < 0 || b > 0xFFFFFFFF) {
			return api.ErrBits
		}
	}
	return api.OK
}

// stretchOf tells Stretch of a matrix in form.
func stretchOf(m api.Matrix, rows, cols int) (api.Matrix, api.Errno) {
	if rows != m.Rows && (m.Rows != 1 || rows < 1) || cols != m.Cols && (m.Cols != 1 || cols < 1) {
		return api.Matrix{}, api.ErrShape
	}
	if tooMany(rows, cols) {
		return api.Matrix{}, api.ErrLong
	}
	from, to := listed(m), make([][]int, rows)
	for r := range to {
		for c := range cols {
			to[r] = append(to[r], from[min(r, m.Rows-1)][min(c, m.Cols-1)])
		}
	}
	return unlisted(to, m.Width), api.OK
}

// sideOf tells the rows (columns) of both.
func sideOf(x, y int) (int, bool) {
	switch {
	case x < 1 || y < 1:
		return 0, false
	case x == 1:
		return y, true
	case y == 1:
		return x, true
	}
	return x, x == y
}

// bothOf tells Both.
func bothOf(a, b api.Shape) (api.Shape, api.Errno) {
	if a.Width != 32 && a.Width != 64 || b.Width != a.Width {
		return api.Shape{}, api.ErrWidth
	}
	rows, fit := sideOf(a.Rows, b.Rows)
	cols, fits := sideOf(a.Cols, b.Cols)
	if !fit || !fits {
		return api.Shape{}, api.ErrShape
	}
	if tooMany(rows, cols) {
		return api.Shape{}, api.ErrLong
	}
	return api.Shape{Rows: rows, Cols: cols, Width: a.Width}, api.OK
}

// turnOf tells Turn of a matrix in form.
func turnOf(m api.Matrix) api.Matrix {
	to := make([][]int, m.Cols)
	for _, row := range listed(m) {
		for c, b := range row {
			to[c] = append(to[c], b)
		}
	}
	return unlisted(to, m.Width)
}

// formOf tells Form of a matrix in form.
func formOf(m api.Matrix, rows, cols int) (api.Matrix, api.Errno) {
	if rows < 1 || cols < 1 || product(rows, cols).Cmp(product(m.Rows, m.Cols)) != 0 {
		return api.Matrix{}, api.ErrShape
	}
	m = unlisted(listed(m), m.Width)
	m.Rows, m.Cols = rows, cols
	return m, api.OK
}

// cutRowsOf tells CutRows of a matrix in form.
func cutRowsOf(m api.Matrix, from, to int) (api.Matrix, api.Errno) {
	if from < 0 || to > m.Rows || to <= from {
		return api.Matrix{}, api.ErrIndex
	}
	return unlisted(listed(m)[from:to], m.Width), api.OK
}

// cutColsOf tells CutCols of a matrix in form.
func cutColsOf(m api.Matrix, from, to int) (api.Matrix, api.Errno) {
	if from < 0 || to > m.Cols || to <= from {
		return api.Matrix{}, api.ErrIndex
	}
	rows := listed(m)
	for r := range rows {
		rows[r] = rows[r][from:to]
	}
	return unlisted(rows, m.Width), api.OK
}

// glueRowsOf tells GlueRows.
func glueRowsOf(l []api.Matrix) (api.Matrix, api.Errno) {
	if len(l) == 0 {
		return api.Matrix{}, api.ErrArg
	}
	for _, m := range l {
		if e := checkOf(m); e != api.OK {
			return api.Matrix{}, e
		}
	}
	var all [][]int
	wide, shape := true, true
	for _, m := range l {
		wide, shape = wide && m.Width == l[0].Width, shape && m.Cols == l[0].Cols
		all = append(all, listed(m)...)
	}
	switch {
	case !wide:
		return api.Matrix{}, api.ErrWidth
	case !shape:
		return api.Matrix{}, api.ErrShape
	case tooMany(len(all), l[0].Cols):
		return api.Matrix{}, api.ErrLong
	}
	return unlisted(all, l[0].Width), api.OK
}

// glueColsOf tells GlueCols: what is turned is glued, and turned back.
func glueColsOf(l []api.Matrix) (api.Matrix, api.Errno) {
	var aside []api.Matrix
	for _, m := range l {
		if e := checkOf(m); e != api.OK {
			return api.Matrix{}, e
		}
		aside = append(aside, turnOf(m))
	}
	m, e := glueRowsOf(aside)
	if e != api.OK {
		return m, e
	}
	return turnOf(m), e
}

// windowOf tells Window of a matrix in form.
func windowOf(m api.Matrix, size, step int) (api.Matrix, api.Errno) {
	switch {
	case m.Rows > 1:
		return api.Matrix{}, api.ErrShape
	case size < 1 || step < 1:
		return api.Matrix{}, api.ErrArg
	case size > m.Cols:
		return api.Matrix{}, api.ErrShape
	}
	row := listed(m)[0]
	var to [][]int
	for left := m.Cols - size; left >= 0; left -= step {
		from := m.Cols - size - left
		to = append(to, row[from:from+size])
	}
	if tooMany(len(to), size) {
		return api.Matrix{}, api.ErrLong
	}
	return unlisted(to, m.Width), api.OK
}

// narrowOf rounds a binary64 to a binary32: its whole number is cut to as many places as the binary32 has there, and the rest says whether one is added.
func narrowOf(b int) int {
	sign, field, fraction := b>>63&1<<31, b>>52&0x7FF, b&(1<<52-1)
	if field == 0x7FF {
		return sign | 0x7F800000
	}
	if field == 0 {
		return sign // below the half of the least binary32
	}
	// The value is mag times 2^(exp - 52); the binary32 has places down to 2^(exp - 23), and none below 2^-149.
	mag, exp := 1<<52|fraction, field-1023
	least := max(exp-23, -149)
	drop := least - (exp - 52)
	if drop > 60 {
		return sign
	}
	whole, rest, half := mag>>drop, mag&(1<<drop-1), 1<<(drop-1)
	if rest > half || rest == half && whole%2 == 1 {
		whole++
	}
	if whole == 1<<24 {
		whole, least = whole/2, least+1
	}
	switch {
	case least > 127-23:
		return sign | 0x7F800000
	case whole < 1<<23:
		return sign | whole
	}
	return sign | (least+150)<<23 | whole&(1<<23-1)
}

// widenOf tells a binary32 as a binary64.
func widenOf(b int) int {
	sign, field, fraction := b>>31<<63, b>>23&0xFF, b&(1<<23-1)
	switch {
	case field == 0xFF:
		return sign | 0x7FF<<52
	case field == 0 && fraction == 0:
		return sign
	case field == 0:
		exp := -149 + 23
		for fraction < 1<<23 {
			fraction, exp = fraction*2, exp-1
		}
		return sign | (exp+1023)<<52 | fraction&(1<<23-1)<<29
	}
	return sign | (field-127+1023)<<52 | fraction<<29
}

// convertOf tells an element in another width.
func convertOf(b, from, to int) int {
	switch {
	case isNone(b, from) && to == 32:
		return 0x7FC00001
	case isNone(b, from):
		return 0x7FF8000000000001
	case from == to:
		return b
	case to == 32:
		return narrowOf(b)
	}
	return widenOf(b)
}

// sameOf tells Same.
func sameOf(a, b api.Matrix) bool {
	if checkOf(a) != api.OK || checkOf(b) != api.OK || a.Rows != b.Rows || a.Cols != b.Cols || a.Width != b.Width {
		return false
	}
	unlike := 0
	for i := range a.Bits {
		if plain(a.Bits[i], a.Width) != plain(b.Bits[i], b.Width) {
			unlike++
		}
	}
	return unlike == 0
}
