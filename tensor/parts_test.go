package tensor_test

import (
	"math"
	"slices"
	"testing"

	"pupil/api"
	"pupil/tensor"
)

func TestP705Stretch(t *testing.T) {
	for _, x := range wrongs() {
		for _, n := range []int{1, 0, math.MaxInt} {
			m, e := tensor.Stretch(x.m, n, n)
			refused(t, m, e, x.want, "Stretch", x.m, n)
		}
	}
	for _, m := range matrices() {
		for _, rows := range append(ends, m.Rows) {
			for _, cols := range append(ends, m.Cols) {
				want, err := stretchOf(m, rows, cols)
				got, e := tensor.Stretch(m, rows, cols)
				compared(t, got, e, want, err, "Stretch", m.Rows, m.Cols, rows, cols)
			}
		}
	}
}

// TestP705Order: what does not fit is told ahead of what is too long; rows and columns that are none, too.
func TestP705Order(t *testing.T) {
	for _, x := range []struct {
		m          api.Matrix
		rows, cols int
		want       api.Errno
	}{
		{of(1, 2, 1, 2), 5000, 3, api.ErrShape},
		{of(2, 1, 1, 2), 3, 5000, api.ErrShape},
		{of(1, 1, 1), 0, 5000, api.ErrShape},
		{of(1, 1, 1), 5000, -1, api.ErrShape},
		{of(1, 2, 1, 2), 2049, 2, api.ErrLong},
		{of(2, 1, 1, 2), 2, 2049, api.ErrLong},
		{of(1, 1, 1), 65, 64, api.ErrLong},
		{of(1, 1, 1), 1 << 32, 1 << 32, api.ErrLong},
		{of(1, 1, 1), math.MaxInt, math.MaxInt, api.ErrLong},
		{of(2, 2, 1, 2, 3, 4), 1, 2, api.ErrShape},
		{of(2, 2, 1, 2, 3, 4), 2, 1, api.ErrShape},
	} {
		m, e := tensor.Stretch(x.m, x.rows, x.cols)
		refused(t, m, e, x.want, "Stretch", x.m, x.rows, x.cols)
	}
	m, e := tensor.Stretch(of(1, 1, 7), 64, 64)
	answered(t, m, e, api.Matrix{Rows: 64, Cols: 64, Width: 64, Bits: slices.Repeat(of(1, 1, 7).Bits, 4096)}, "Stretch")
}

func TestP706Both(t *testing.T) {
	var list []api.Shape
	for _, rows := range ends {
		for _, cols := range []int{math.MinInt, -1, 0, 1, 2, 3, 4096, 1 << 32, 1<<62 + 1, math.MaxInt} {
			for _, width := range []int{32, 64, 16} {
				list = append(list, api.Shape{Rows: rows, Cols: cols, Width: width})
			}
		}
	}
	for _, a := range list {
		for _, b := range list {
			want, err := bothOf(a, b)
			if s, e := tensor.Both(a, b); s != want || e != err {
				t.Fatalf("Both(%v, %v): %v, %v; want %v, %v", a, b, s, e, want, err)
			}
		}
	}
}

// TestP706Order: the width goes ahead of the shape, and the shape ahead of the length.
func TestP706Order(t *testing.T) {
	for _, x := range []struct {
		a, b api.Shape
		want api.Errno
	}{
		{api.Shape{Rows: 0, Cols: 1, Width: 16}, api.Shape{Rows: 0, Cols: 1, Width: 16}, api.ErrWidth},
		{api.Shape{Rows: 0, Cols: 1, Width: 64}, api.Shape{Rows: 2, Cols: 3, Width: 32}, api.ErrWidth},
		{api.Shape{Rows: 1, Cols: 1, Width: 32}, api.Shape{Rows: 1, Cols: 1, Width: 0}, api.ErrWidth},
		{api.Shape{Rows: 1, Cols: 1, Width: 64}, api.Shape{Rows: 1, Cols: 1, Width: 32}, api.ErrWidth},
		{api.Shape{Rows: 0, Cols: 5000, Width: 64}, api.Shape{Rows: 0, Cols: 5000, Width: 64}, api.ErrShape},
		{api.Shape{Rows: 1, Cols: 1, Width: 64}, api.Shape{Rows: 1, Cols: 0, Width: 64}, api.ErrShape},
		{api.Shape{Rows: 5000, Cols: 2, Width: 64}, api.Shape{Rows: 1, Cols: 3, Width: 64}, api.ErrShape},
		{api.Shape{Rows: 64, Cols: 1, Width: 64}, api.Shape{Rows: 1, Cols: 65, Width: 64}, api.ErrLong},
		{api.Shape{Rows: 1 << 32, Cols: 1, Width: 64}, api.Shape{Rows: 1, Cols: 1 << 32, Width: 64}, api.ErrLong},
		{api.Shape{Rows: 5000, Cols: 1, Width: 32}, api.Shape{Rows: 5000, Cols: 1, Width: 32}, api.ErrLong},
		{api.Shape{Rows: 64, Cols: 1, Width: 32}, api.Shape{Rows: 1, Cols: 64, Width: 32}, api.OK},
	} {
		for _, s := range [][2]api.Shape{{x.a, x.b}, {x.b, x.a}} {
			got, e := tensor.Both(s[0], s[1])
			if e != x.want || e != api.OK && got != (api.Shape{}) {
				t.Errorf("Both(%v, %v): %v, %v; want %v", s[0], s[1], got, e, x.want)
			}
		}
	}
}

// TestP706Stretch: what Both tells, both stretch to.
func TestP706Stretch(t *testing.T) {
	for _, a := range matrices() {
		for _, b := range matrices() {
			s, e := tensor.Both(api.Shape{Rows: a.Rows, Cols: a.Cols, Width: a.Width}, api.Shape{Rows: b.Rows, Cols: b.Cols, Width: b.Width})
			if e != api.OK {
				continue
			}
			for _, m := range []api.Matrix{a, b} {
				if _, e := tensor.Stretch(m, s.Rows, s.Cols); e != api.OK {
					t.Errorf("%d by %d does not stretch to %v: %v", m.Rows, m.Cols, s, e)
				}
			}
		}
	}
}

func TestP707Turn(t *testing.T) {
	for _, x := range wrongs() {
		m, e := tensor.Turn(x.m)
		refused(t, m, e, x.want, "Turn", x.m)
	}
	for _, m := range matrices() {
		got, e := tensor.Turn(m)
		answered(t, got, e, turnOf(m), "Turn", m.Rows, m.Cols)
		back, e := tensor.Turn(got)
		if e != api.OK || !tensor.Same(back, m) {
			t.Errorf("%d by %d turned twice is another one: %v", m.Rows, m.Cols, e)
		}
	}
}

func TestP707Form(t *testing.T) {
	for _, x := range wrongs() {
		for _, n := range []int{1, 0, math.MaxInt} {
			m, e := tensor.Form(x.m, n, n)
			refused(t, m, e, x.want, "Form", x.m, n)
		}
	}
	for _, m := range matrices() {
		formed := 0
		for _, rows := range append(ends, m.Rows, len(m.Bits), 64) {
			for _, cols := range append(ends, m.Cols, len(m.Bits), 64) {
				want, err := formOf(m, rows, cols)
				got, e := tensor.Form(m, rows, cols)
				compared(t, got, e, want, err, "Form", m.Rows, m.Cols, rows, cols)
				if err == api.OK {
					formed++
				}
			}
		}
		if formed < 1 {
			t.Errorf("%d by %d has no form", m.Rows, m.Cols)
		}
	}
}

// TestP707Round: rows times columns that go round to how many elements there are.
func TestP707Round(t *testing.T) {
	four, one := counted(2, 2, 64), counted(1, 1, 64)
	for _, x := range []struct {
		m          api.Matrix
		rows, cols int
	}{
		{four, 1<<62 + 1, 4}, {four, 4, 1<<62 + 1}, {four, 1<<63 - 1<<1, 1<<63 - 1<<1}, {one, math.MaxInt, math.MaxInt}, {four, -2, -2}, {four, -4, -1}, {one, -1, -1},
	} {
		if x.rows*x.cols != len(x.m.Bits) {
			t.Fatalf("%d times %d does not go round", x.rows, x.cols)
		}
		m, e := tensor.Form(x.m, x.rows, x.cols)
		refused(t, m, e, api.ErrShape, "Form", x.rows, x.cols)
	}
}

func TestP707Cut(t *testing.T) {
	for _, x := range wrongs() {
		for _, n := range []int{1, 0, -1} {
			m, e := tensor.CutCols(x.m, 0, n)
			refused(t, m, e, x.want, "CutCols", x.m, n)
			m, e = tensor.CutRows(x.m, 0, n)
			refused(t, m, e, x.want, "CutRows", x.m, n)
		}
	}
	for _, m := range matrices() {
		for _, from := range append(ends, m.Rows-1, m.Cols-1) {
			for _, to := range append(ends, m.Rows, m.Rows+1, m.Cols, m.Cols+1) {
				want, err := cutColsOf(m, from, to)
				got, e := tensor.CutCols(m, from, to)
				compared(t, got, e, want, err, "CutCols", m.Rows, m.Cols, from, to)
				want, err = cutRowsOf(m, from, to)
				got, e = tensor.CutRows(m, from, to)
				compared(t, got, e, want, err, "CutRows", m.Rows, m.Cols, from, to)
			}
		}
	}
}

// TestP707CutWhole: a cut of all, of one, of none.
func TestP707CutWhole(t *testing.T) {
	six := of(2, 3, 1, 2, 3, 4, 5, 6)
	m, e := tensor.CutCols(six, 0, 3)
	answered(t, m, e, six, "CutCols")
	m, e = tensor.CutRows(six, 0, 2)
	answered(t, m, e, six, "CutRows")
	m, e = tensor.CutCols(six, 2, 3)
	answered(t, m, e, of(2, 1, 3, 6), "CutCols")
	m, e = tensor.CutRows(six, 0, 1)
	answered(t, m, e, of(1, 3, 1, 2, 3), "CutRows")
	for _, x := range [][2]int{{0, 0}, {1, 1}, {2, 2}, {2, 1}, {-1, 1}, {0, 4}, {3, 3}, {3, 4}, {math.MinInt, math.MaxInt}, {math.MaxInt, math.MinInt}, {math.MinInt, 1}} {
		m, e := tensor.CutCols(six, x[0], x[1])
		refused(t, m, e, api.ErrIndex, "CutCols", x)
		m, e = tensor.CutRows(six, x[0], x[1])
		refused(t, m, e, api.ErrIndex, "CutRows", x)
	}
	m, e = tensor.CutRows(six, 0, 3)
	refused(t, m, e, api.ErrIndex, "CutRows", 0, 3)
}

// glues tells lists of matrices: of one, of many, of none, of those that fit and of those that don't.
func glues() [][]api.Matrix {
	list := [][]api.Matrix{nil, {}}
	small := []api.Matrix{counted(1, 1, 64), counted(1, 2, 64), counted(2, 1, 64), odd(2, 2, 64, 1), odd(2, 2, 32, 2), odd(1, 2, 32, 3), {}, {Rows: 1, Cols: 1, Width: 32, Bits: []int{-1}}}
	for _, a := range small {
		for _, b := range small {
			for _, c := range small {
				list = append(list, []api.Matrix{a, b, c})
			}
		}
	}
	all := append(small, counted(1, 4095, 64), counted(1, 4096, 64), counted(4095, 1, 64), counted(4096, 1, 64), odd(32, 64, 64, 4), odd(64, 32, 64, 5))
	for _, a := range all {
		list = append(list, []api.Matrix{a})
		for _, b := range all {
			list = append(list, []api.Matrix{a, b})
		}
	}
	for _, n := range []int{64, 65} {
		var cols, rows []api.Matrix
		for i := range n {
			cols, rows = append(cols, odd(64, 1, 32, i)), append(rows, odd(1, 64, 32, -i))
		}
		list = append(list, cols, rows)
	}
	for _, n := range []int{4096, 4097} {
		list = append(list, slices.Repeat([]api.Matrix{counted(1, 1, 64)}, n))
	}
	return list
}

func TestP708Glue(t *testing.T) {
	for _, l := range glues() {
		want, err := glueColsOf(l)
		got, e := tensor.GlueCols(l)
		compared(t, got, e, want, err, "GlueCols", l)
		want, err = glueRowsOf(l)
		got, e = tensor.GlueRows(l)
		compared(t, got, e, want, err, "GlueRows", l)
	}
	for _, x := range wrongs() {
		for _, l := range [][]api.Matrix{{x.m}, {of(1, 1, 1), x.m}, {x.m, of(2, 2, 1, 2, 3, 4)}, {counted(1, 1, 32), of(2, 2, 1, 2, 3, 4), x.m}} {
			m, e := tensor.GlueCols(l)
			refused(t, m, e, x.want, "GlueCols", l)
			m, e = tensor.GlueRows(l)
			refused(t, m, e, x.want, "GlueRows", l)
		}
	}
}

// TestP708Order: the first that is refused, then widths, then shapes, then the length, each of all of them ahead of the next.
func TestP708Order(t *testing.T) {
	bits, shape := api.Matrix{Rows: 1, Cols: 1, Width: 32, Bits: []int{-1}}, api.Matrix{Rows: 2, Cols: 2, Width: 64}
	full, row, column := counted(64, 64, 64), counted(1, 3, 64), counted(3, 1, 64)
	for _, x := range []struct {
		l    []api.Matrix
		want api.Errno
	}{
		{nil, api.ErrArg},
		{[]api.Matrix{}, api.ErrArg},
		{[]api.Matrix{bits, shape}, api.ErrBits},
		{[]api.Matrix{shape, bits}, api.ErrShape},
		{[]api.Matrix{full, counted(1, 1, 32), row, bits}, api.ErrBits},
		{[]api.Matrix{full, row, column, counted(1, 1, 32)}, api.ErrWidth},
		{[]api.Matrix{full, full, counted(5, 5, 64)}, api.ErrShape},
		{[]api.Matrix{row, column}, api.ErrShape},
		{[]api.Matrix{full, full}, api.ErrLong},
	} {
		m, e := tensor.GlueCols(x.l)
		refused(t, m, e, x.want, "GlueCols", x.l)
		m, e = tensor.GlueRows(x.l)
		refused(t, m, e, x.want, "GlueRows", x.l)
	}
	m, e := tensor.GlueCols([]api.Matrix{column, column})
	answered(t, m, e, api.Matrix{Rows: 3, Cols: 2, Width: 64, Bits: []int{0, 0, 1, 1, 2, 2}}, "GlueCols")
	m, e = tensor.GlueRows([]api.Matrix{column, counted(1, 1, 64)})
	answered(t, m, e, api.Matrix{Rows: 4, Cols: 1, Width: 64, Bits: []int{0, 1, 2, 0}}, "GlueRows")
	m, e = tensor.GlueCols([]api.Matrix{row, counted(1, 1, 64), row})
	answered(t, m, e, api.Matrix{Rows: 1, Cols: 7, Width: 64, Bits: []int{0, 1, 2, 0, 0, 1, 2}}, "GlueCols")
}

func TestP709Window(t *testing.T) {
	for _, x := range wrongs() {
		for _, n := range []int{1, 0, math.MaxInt} {
			m, e := tensor.Window(x.m, n, n)
			refused(t, m, e, x.want, "Window", x.m, n)
		}
	}
	for _, m := range matrices() {
		for _, size := range append(ends, m.Cols-1, m.Cols, m.Cols+1, 64) {
			for _, step := range append(ends, m.Cols-1, m.Cols, m.Cols+1, 64) {
				want, err := windowOf(m, size, step)
				got, e := tensor.Window(m, size, step)
				compared(t, got, e, want, err, "Window", m.Rows, m.Cols, size, step)
			}
		}
	}
}

// TestP709Steps: windows that step over each other, side by side, over gaps, one of all; what is left behind the last one is in none.
func TestP709Steps(t *testing.T) {
	row := of(1, 6, 1, 2, 3, 4, 5, 6)
	for _, x := range []struct {
		size, step int
		want       api.Matrix
	}{
		{3, 2, of(2, 3, 1, 2, 3, 3, 4, 5)},
		{3, 3, of(2, 3, 1, 2, 3, 4, 5, 6)},
		{2, 4, of(2, 2, 1, 2, 5, 6)},
		{2, 3, of(2, 2, 1, 2, 4, 5)},
		{1, 5, of(2, 1, 1, 6)},
		{1, 6, of(1, 1, 1)},
		{1, 1, of(6, 1, 1, 2, 3, 4, 5, 6)},
		{6, 1, row},
		{6, math.MaxInt, row},
		{5, 1, of(2, 5, 1, 2, 3, 4, 5, 2, 3, 4, 5, 6)},
		{5, 2, of(1, 5, 1, 2, 3, 4, 5)},
	} {
		m, e := tensor.Window(row, x.size, x.step)
		answered(t, m, e, x.want, "Window", x.size, x.step)
	}
}

// TestP709Order: more than one row, then size and step, then too great a size, then the length.
func TestP709Order(t *testing.T) {
	for _, x := range []struct {
		m          api.Matrix
		size, step int
		want       api.Errno
	}{
		{of(2, 1, 1, 2), 0, 0, api.ErrShape},
		{of(2, 1, 1, 2), 1, 1, api.ErrShape},
		{of(1, 2, 1, 2), 3, 0, api.ErrArg},
		{of(1, 2, 1, 2), 0, 1, api.ErrArg},
		{of(1, 2, 1, 2), math.MaxInt, math.MinInt, api.ErrArg},
		{of(1, 2, 1, 2), 3, 1, api.ErrShape},
		{of(1, 2, 1, 2), math.MaxInt, 1, api.ErrShape},
		{counted(1, 4096, 32), 2, 1, api.ErrLong},
		{counted(1, 4096, 32), 4095, 1, api.ErrLong},
		{counted(1, 2049, 32), 3, 1, api.ErrLong},
		{counted(1, 128, 64), 64, 1, api.ErrLong},
	} {
		m, e := tensor.Window(x.m, x.size, x.step)
		refused(t, m, e, x.want, "Window", x.m.Rows, x.m.Cols, x.size, x.step)
	}
	for _, x := range [][3]int{{127, 64, 1}, {4096, 1, 1}, {4096, 2, 2}, {2049, 2, 1}, {4096, 4096, 1}} {
		m, e := tensor.Window(counted(1, x[0], 32), x[1], x[2])
		if e != api.OK || len(m.Bits) != 4096 {
			t.Errorf("Window(1 by %d, %d, %d): %d elements, %v", x[0], x[1], x[2], len(m.Bits), e)
		}
	}
}
