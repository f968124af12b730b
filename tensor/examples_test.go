package tensor_test

import (
	"math"
	"testing"

	"pupil/api"
	"pupil/tensor"
)

// of makes a matrix of binary64 numbers.
func of(rows, cols int, numbers ...float64) api.Matrix {
	m := api.Matrix{Rows: rows, Cols: cols, Width: 64}
	for _, f := range numbers {
		m.Bits = append(m.Bits, int(math.Float64bits(f)))
	}
	return m
}

// TestExamples: the chapter's table, line by line.
func TestExamples(t *testing.T) {
	for _, x := range []struct {
		m    api.Matrix
		want api.Errno
	}{
		{of(2, 2, 1, 2, 3), api.ErrShape},
		{of(0, 1), api.ErrShape},
		{api.Matrix{Rows: 1, Cols: 1, Width: 16, Bits: []int{0}}, api.ErrWidth},
		{api.Matrix{Rows: 1, Cols: 1, Width: 32, Bits: []int{-1}}, api.ErrBits},
	} {
		if e := tensor.Check(x.m); e != x.want {
			t.Errorf("Check(%v): %v, want %v", x.m, e, x.want)
		}
	}
	if at, e := tensor.Finite(of(1, 3, 1, math.Inf(1), math.NaN())); at != 1 || e != api.ErrInf {
		t.Errorf("Finite: %d, %v", at, e)
	}
	m, e := tensor.Stretch(of(1, 2, 1, 2), 2, 2)
	answered(t, m, e, of(2, 2, 1, 2, 1, 2), "Stretch")
	m, e = tensor.Stretch(of(2, 1, 7, 8), 2, 3)
	answered(t, m, e, of(2, 3, 7, 7, 7, 8, 8, 8), "Stretch")
	m, e = tensor.Stretch(of(2, 2, 1, 2, 3, 4), 4, 2)
	refused(t, m, e, api.ErrShape, "Stretch")
	s, e := tensor.Both(api.Shape{Rows: 1, Cols: 3, Width: 64}, api.Shape{Rows: 2, Cols: 1, Width: 64})
	if s != (api.Shape{Rows: 2, Cols: 3, Width: 64}) || e != api.OK {
		t.Errorf("Both: %v, %v", s, e)
	}
	s, e = tensor.Both(api.Shape{Rows: 2, Cols: 3, Width: 64}, api.Shape{Rows: 3, Cols: 3, Width: 64})
	if s != (api.Shape{}) || e != api.ErrShape {
		t.Errorf("Both: %v, %v", s, e)
	}
}

// TestExamplesParts: the table's other half.
func TestExamplesParts(t *testing.T) {
	six := of(2, 3, 1, 2, 3, 4, 5, 6)
	m, e := tensor.Turn(six)
	answered(t, m, e, of(3, 2, 1, 4, 2, 5, 3, 6), "Turn")
	m, e = tensor.CutCols(six, 1, 3)
	answered(t, m, e, of(2, 2, 2, 3, 5, 6), "CutCols")
	m, e = tensor.CutRows(six, 1, 2)
	answered(t, m, e, of(1, 3, 4, 5, 6), "CutRows")
	m, e = tensor.CutCols(six, 2, 2)
	refused(t, m, e, api.ErrIndex, "CutCols")
	two := []api.Matrix{of(1, 2, 1, 2), of(1, 2, 3, 4)}
	m, e = tensor.GlueRows(two)
	answered(t, m, e, of(2, 2, 1, 2, 3, 4), "GlueRows")
	m, e = tensor.GlueCols(two)
	answered(t, m, e, of(1, 4, 1, 2, 3, 4), "GlueCols")
	five := of(1, 5, 1, 2, 3, 4, 5)
	m, e = tensor.Window(five, 2, 2)
	answered(t, m, e, of(2, 2, 1, 2, 3, 4), "Window")
	m, e = tensor.Window(five, 3, 1)
	answered(t, m, e, of(3, 3, 1, 2, 3, 2, 3, 4, 3, 4, 5), "Window")
	m, e = tensor.Convert(of(1, 1, 0.1), 32)
	answered(t, m, e, api.Matrix{Rows: 1, Cols: 1, Width: 32, Bits: []int{0x3DCCCCCD}}, "Convert")
	m, e = tensor.Convert(of(1, 1, 0x1p200), 32)
	answered(t, m, e, api.Matrix{Rows: 1, Cols: 1, Width: 32, Bits: []int{0x7F800000}}, "Convert")
}
