package kernel_test

import (
	"reflect"
	"slices"
	"sync"
	"testing"

	"pupil/api"
	"pupil/kernel"
)

// call is an operation with what it takes.
type call struct {
	op, a, b int
	in       []api.Matrix
}

// calls tells calls of all operations, of both widths, those among them that leave elements where they are.
func calls() []call {
	var all []call
	for _, width := range widths {
		for _, m := range []api.Matrix{odd(3, 4, width, 1100), odd(1, 6, width, 1101), odd(1, 1, width, 1102)} {
			for _, op := range slices.Concat(eachOps, manyOps, []int{api.OpTurn, api.OpWide, api.OpNarrow}) {
				all = append(all, call{op, 0, 0, list(m)})
			}
			for _, op := range append(pairOps, glueOps...) {
				all = append(all, call{op, 0, 0, list(m, odd(m.Rows, m.Cols, width, 1103))})
			}
			turned := odd(m.Cols, m.Rows, width, 1104)
			all = append(all, call{api.OpProduct, 0, 0, list(m, turned)}, call{api.OpAdd, 0, 0, list(m, odd(1, 1, width, 1105))})
			all = append(all, call{api.OpGlueCols, 0, 0, list(m)}, call{api.OpGlueRows, 0, 0, list(m)})
			all = append(all, call{api.OpForm, m.Rows, m.Cols, list(m)}, call{api.OpForm, m.Cols, m.Rows, list(m)})
			all = append(all, call{api.OpCutCols, 0, m.Cols, list(m)}, call{api.OpCutRows, 0, m.Rows, list(m)}, call{api.OpCutCols, 0, 1, list(m)})
			all = append(all, call{api.OpWindow, m.Cols, 1, list(m)}, call{api.OpWindow, 1, 1, list(m)})
		}
	}
	return all
}

// guarded tells matrices as pieces of longer lists, with room ahead of them and spare room behind them, and these lists.
func guarded(in []api.Matrix) ([]api.Matrix, [][]int) {
	room, lists := make([]api.Matrix, len(in)+1), [][]int(nil)
	for i, m := range in {
		l := slices.Concat([]int{-7, -8}, m.Bits, []int{-9, -10, -11})
		m.Bits = l[2 : 2+len(m.Bits)]
		room[i], lists = m, append(lists, l)
	}
	room[len(in)] = api.Matrix{Rows: -5}
	return room[:len(in)], lists
}

// copied tells lists of their own that say the same.
func copied(lists [][]int) [][]int {
	var out [][]int
	for _, l := range lists {
		out = append(out, slices.Clone(l))
	}
	return out
}

// TestP806Memory: no call changes what it was given, nor its spare room; no answer shares memory with it, nor with another answer.
func TestP806Memory(t *testing.T) {
	for _, c := range calls() {
		in, lists := guarded(c.in)
		before := copied(lists)
		got, e := kernel.Do(c.op, c.a, c.b, in)
		again, _ := kernel.Do(c.op, c.a, c.b, in)
		unchanged := reflect.DeepEqual(lists, before) && reflect.DeepEqual(in, c.in) && in[:len(in)+1][len(in)].Rows == -5
		if !unchanged {
			t.Fatalf("%d has changed what it was given, or what stands about it: %v", c.op, lists)
		}
		if e != api.OK {
			continue
		}
		want := slices.Clone(got.Bits)
		for i := range cap(got.Bits) {
			got.Bits[:cap(got.Bits)][i] = -99
		}
		if !reflect.DeepEqual(lists, before) || !slices.Equal(again.Bits, want) {
			t.Errorf("%d shares memory", c.op)
		}
		for _, l := range lists {
			for i := range l {
				l[i] = 99
			}
		}
		if !slices.Equal(again.Bits, want) {
			t.Errorf("%d keeps what it was given", c.op)
		}
	}
}

// TestP806Looked: nor do the calls that tell no matrix.
func TestP806Looked(t *testing.T) {
	for _, c := range calls() {
		in, lists := guarded(c.in)
		before := copied(lists)
		places, e := kernel.Places(in[0])
		if e != api.OK {
			t.Fatal(e)
		}
		want := slices.Clone(places)
		again, _ := kernel.Places(in[0])
		for i := range cap(places) {
			places[:cap(places)][i] = -99
		}
		kernel.Dot(in[0], in[len(in)-1])
		if !reflect.DeepEqual(lists, before) || !reflect.DeepEqual(in, c.in) || !slices.Equal(again, want) {
			t.Errorf("%v has become %v; places %v, %v", before, lists, want, again)
		}
		shapes := append(shapesOf(in), api.Shape{Rows: -5, Cols: -6})
		had := slices.Clone(shapes)
		s, e := kernel.Shape(c.op, c.a, c.b, shapes[:len(in)])
		m, err := kernel.Do(c.op, c.a, c.b, in)
		if !slices.Equal(shapes, had) || e != err || s.Rows != m.Rows || s.Cols != m.Cols || s.Width != m.Width {
			t.Errorf("Shape(%d) is %v, %v; Do has %d by %d, %v", c.op, s, e, m.Rows, m.Cols, err)
		}
	}
}

// TestP806Alone: however many ask at once, each is answered the same.
func TestP806Alone(t *testing.T) {
	var work sync.WaitGroup
	for _, c := range calls() {
		want, err := kernel.Do(c.op, c.a, c.b, c.in)
		shape, fault := kernel.Shape(c.op, c.a, c.b, shapesOf(c.in))
		places, _ := kernel.Places(c.in[0])
		dot, _ := kernel.Dot(c.in[0], c.in[0])
		for range 3 {
			work.Go(func() {
				got, e := kernel.Do(c.op, c.a, c.b, c.in)
				s, f := kernel.Shape(c.op, c.a, c.b, shapesOf(c.in))
				at, _ := kernel.Places(c.in[0])
				d, _ := kernel.Dot(c.in[0], c.in[0])
				if e != err || !reflect.DeepEqual(got, want) || s != shape || f != fault || !slices.Equal(at, places) || d != dot {
					t.Errorf("%d tells another answer", c.op)
				}
			})
		}
	}
	work.Wait()
}
