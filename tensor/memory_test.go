package tensor_test

import (
	"reflect"
	"slices"
	"sync"
	"testing"

	"pupil/api"
	"pupil/tensor"
)

// call is a call that answers a matrix, by its name.
type call struct {
	name string
	do   func(m api.Matrix) (api.Matrix, api.Errno)
}

// calls tells all calls that answer a matrix of another, each as one that leaves the elements where they are and as one that doesn't.
func calls() []call {
	return []call{
		{"Stretch to itself", func(m api.Matrix) (api.Matrix, api.Errno) { return tensor.Stretch(m, m.Rows, m.Cols) }},
		{"Stretch", func(m api.Matrix) (api.Matrix, api.Errno) { return tensor.Stretch(m, 5, m.Cols) }},
		{"Turn", tensor.Turn},
		{"Form to itself", func(m api.Matrix) (api.Matrix, api.Errno) { return tensor.Form(m, m.Rows, m.Cols) }},
		{"Form", func(m api.Matrix) (api.Matrix, api.Errno) { return tensor.Form(m, len(m.Bits), 1) }},
		{"CutCols of all", func(m api.Matrix) (api.Matrix, api.Errno) { return tensor.CutCols(m, 0, m.Cols) }},
		{"CutCols", func(m api.Matrix) (api.Matrix, api.Errno) { return tensor.CutCols(m, 1, 3) }},
		{"CutRows of all", func(m api.Matrix) (api.Matrix, api.Errno) { return tensor.CutRows(m, 0, m.Rows) }},
		{"CutRows", func(m api.Matrix) (api.Matrix, api.Errno) { return tensor.CutRows(m, 0, 1) }},
		{"GlueCols of one", func(m api.Matrix) (api.Matrix, api.Errno) { return tensor.GlueCols([]api.Matrix{m}) }},
		{"GlueCols", func(m api.Matrix) (api.Matrix, api.Errno) { return tensor.GlueCols([]api.Matrix{m, m}) }},
		{"GlueRows of one", func(m api.Matrix) (api.Matrix, api.Errno) { return tensor.GlueRows([]api.Matrix{m}) }},
		{"GlueRows", func(m api.Matrix) (api.Matrix, api.Errno) { return tensor.GlueRows([]api.Matrix{m, m}) }},
		{"Window of all", func(m api.Matrix) (api.Matrix, api.Errno) { return tensor.Window(m, m.Cols, 1) }},
		{"Window", func(m api.Matrix) (api.Matrix, api.Errno) { return tensor.Window(m, 2, 1) }},
		{"Convert to its own", func(m api.Matrix) (api.Matrix, api.Errno) { return tensor.Convert(m, m.Width) }},
		{"Convert to 32", func(m api.Matrix) (api.Matrix, api.Errno) { return tensor.Convert(m, 32) }},
		{"Convert to 64", func(m api.Matrix) (api.Matrix, api.Errno) { return tensor.Convert(m, 64) }},
	}
}

// guarded tells a matrix as a piece of a longer list, with room ahead of it and spare room behind it.
func guarded(m api.Matrix) (api.Matrix, []int) {
	list := slices.Concat([]int{-7, -8}, m.Bits, []int{-9, -10, -11})
	m.Bits = list[2 : 2+len(m.Bits)]
	return m, list
}

// whole tells a list with its spare room.
func whole(list []int) []int { return list[:cap(list)] }

// TestP712Memory: no call changes what it was given, nor its spare room, and no answer shares memory with it, nor with another answer.
func TestP712Memory(t *testing.T) {
	for _, from := range []api.Matrix{odd(1, 6, 32, 1), odd(1, 6, 64, 2), odd(4, 3, 32, 3), odd(4, 3, 64, 4), odd(1, 1, 64, 5)} {
		for _, c := range calls() {
			m, list := guarded(from)
			before := slices.Clone(list)
			got, e := c.do(m)
			again, _ := c.do(m)
			if !slices.Equal(list, before) {
				t.Fatalf("%s has changed what it was given, or what stands about it: %v", c.name, list)
			}
			if e != api.OK {
				continue
			}
			want := slices.Clone(got.Bits)
			for i := range whole(got.Bits) {
				whole(got.Bits)[i] = -99
			}
			if !slices.Equal(list, before) || !slices.Equal(again.Bits, want) {
				t.Errorf("%s shares memory", c.name)
			}
			for i := range list {
				list[i] = 99
			}
			if !slices.Equal(again.Bits, want) {
				t.Errorf("%s keeps what it was given", c.name)
			}
		}
	}
}

// TestP712Looked: calls that tell no matrix change nothing, and spare room is not looked at.
func TestP712Looked(t *testing.T) {
	for _, from := range []api.Matrix{odd(4, 3, 32, 3), odd(4, 3, 64, 4), {Rows: 2, Cols: 2, Width: 32, Bits: []int{1, 2, 3}}, {Rows: 1, Cols: 1, Width: 32, Bits: []int{-1}}} {
		m, list := guarded(from)
		before := slices.Clone(list)
		if tensor.Check(m) != tensor.Check(from) || tensor.Same(m, from) != tensor.Same(from, from) {
			t.Errorf("spare room turns what is told of %v", from)
		}
		tensor.Finite(m)
		tensor.At(m, 1, 1)
		if !slices.Equal(list, before) {
			t.Errorf("%v has become %v", before, list)
		}
	}
	list := []api.Matrix{odd(2, 2, 64, 1), odd(2, 2, 64, 2), odd(2, 2, 64, 3)}
	before := []api.Matrix{odd(2, 2, 64, 1), odd(2, 2, 64, 2), odd(2, 2, 64, 3)}
	tensor.GlueCols(list[:2])
	tensor.GlueRows(list[:2])
	if !reflect.DeepEqual(list, before) {
		t.Errorf("the list of what was glued is changed")
	}
}

// TestP712Zero: each matrix of noughts is one of its own.
func TestP712Zero(t *testing.T) {
	a, _ := tensor.Zero(2, 2, 64)
	a.Bits[3] = 5
	b, e := tensor.Zero(2, 2, 64)
	answered(t, b, e, api.Matrix{Rows: 2, Cols: 2, Width: 64, Bits: make([]int, 4)}, "Zero")
}

// TestP712Alone: however many ask at once, each is answered the same.
func TestP712Alone(t *testing.T) {
	list := []api.Matrix{odd(1, 6, 32, 1), odd(4, 3, 64, 4), odd(1, 4096, 64, 5), odd(64, 64, 32, 6)}
	var work sync.WaitGroup
	for _, m := range list {
		for _, c := range calls() {
			want, err := c.do(m)
			for range 4 {
				work.Go(func() {
					if got, e := c.do(m); e != err || !reflect.DeepEqual(got, want) {
						t.Errorf("%s tells another answer", c.name)
					}
				})
			}
		}
	}
	work.Wait()
}
