package kernel_test

import (
	"math"
	"slices"
	"testing"

	"pupil/api"
	"pupil/kernel"
)

// shaped makes shapes.
func shaped(width int, sides ...[2]int) []api.Shape {
	var list []api.Shape
	for _, s := range sides {
		list = append(list, api.Shape{Rows: s[0], Cols: s[1], Width: width})
	}
	return list
}

// shapesOf tells the shapes of matrices.
func shapesOf(in []api.Matrix) []api.Shape {
	var list []api.Shape
	for _, m := range in {
		list = append(list, api.Shape{Rows: m.Rows, Cols: m.Cols, Width: m.Width})
	}
	return list
}

// alike holds Shape against what is asked, and Do of matrices of these shapes, where there are such, against Shape.
func alike(t *testing.T, op, a, b int, in []api.Shape) {
	t.Helper()
	want, err := shapeOf(op, a, b, in)
	s, e := kernel.Shape(op, a, b, in)
	if s != want || e != err {
		t.Errorf("Shape(%d, %d, %d, %v): %v, %v; want %v, %v", op, a, b, in, s, e, want, err)
	}
	for _, s := range in {
		if checkOf(s) != api.OK || slices.Contains(elemOps, op) && s.Rows*s.Cols > 100 || op >= api.OpSoftmax && s.Rows*s.Cols > 100 {
			return
		}
	}
	m, e := kernel.Do(op, a, b, noughts(in))
	if m.Rows != want.Rows || m.Cols != want.Cols || m.Width != want.Width || len(m.Bits) != want.Rows*want.Cols || e != err {
		t.Errorf("Do(%d, %d, %d, %v): %d by %d, %v; want %v, %v", op, a, b, in, m.Rows, m.Cols, e, want, err)
	}
}

// sides has rows and columns that matrices have, and the first that they don't.
var sides = [][2]int{{1, 1}, {1, 2}, {2, 1}, {2, 2}, {2, 3}, {3, 2}, {1, 6}, {64, 64}, {1, 4096}, {4096, 1}, {64, 1}, {1, 64}, {65, 1}, {1, 65}, {2, 2048}, {2048, 2}, {2, 2049}, {4097, 1}, {0, 1}, {1, 0}}

func TestP802One(t *testing.T) {
	for _, op := range ops() {
		for _, width := range []int{32, 64, 16} {
			for _, s := range sides {
				alike(t, op, 0, 0, shaped(width, s))
			}
		}
	}
}

func TestP802Two(t *testing.T) {
	for _, op := range append([]int{api.OpProduct, api.OpGlueCols, api.OpGlueRows}, pairOps...) {
		for _, s := range sides {
			for _, other := range sides {
				alike(t, op, 0, 0, shaped(64, s, other))
				alike(t, op, 0, 0, slices.Concat(shaped(32, s), shaped(64, other)))
			}
			alike(t, op, 0, 0, shaped(32, s, s))
			alike(t, op, 0, 0, shaped(64, s, s, s))
		}
	}
}

// TestP802Numbers: a and b at the ends of the ints, of the operations that have them.
func TestP802Numbers(t *testing.T) {
	for _, op := range moveOps {
		for _, s := range [][2]int{{1, 1}, {1, 6}, {6, 1}, {2, 3}, {64, 64}, {1, 4096}} {
			for _, a := range ends {
				for _, b := range ends {
					alike(t, op, a, b, shaped(64, s))
				}
			}
			alike(t, op, 1, 1, shaped(32, s))
		}
	}
}

// TestP802Ends: shapes at the ends of the ints, and widths that are none, at either place.
func TestP802Ends(t *testing.T) {
	for _, rows := range ends {
		for _, cols := range ends {
			for _, op := range ops() {
				for _, width := range []int{32, 64, 33} {
					in := shaped(width, [2]int{rows, cols})
					if takes, _, _ := wants(op); takes == 2 {
						alike(t, op, 0, 0, slices.Concat(in, shaped(width, [2]int{1, 1})))
						in = slices.Concat(shaped(width, [2]int{1, 1}), in)
					}
					alike(t, op, 0, 0, in)
				}
			}
		}
	}
	for _, width := range noWidths {
		for _, op := range ops() {
			in := shaped(width, [2]int{1, 1})
			if takes, _, _ := wants(op); takes == 2 {
				alike(t, op, 0, 0, slices.Concat(shaped(64, [2]int{1, 1}), in))
				in = append(in, in...)
			}
			alike(t, op, 0, 0, in)
		}
	}
}

// TestP802Order: which of two errors is told.
func TestP802Order(t *testing.T) {
	long, empty := [2]int{65, 64}, [2]int{0, 1}
	for _, x := range []struct {
		op, a, b int
		in       []api.Shape
		want     api.Errno
	}{
		{0, 1, 1, nil, api.ErrOp},
		{api.OpAdd, 0, 0, nil, api.ErrArg},
		{api.OpAdd, 0, 0, shaped(16, empty), api.ErrArg},
		{api.OpAdd, 1, 0, shaped(16, empty, long), api.ErrArg},
		{api.OpGlueRows, 0, 0, nil, api.ErrArg},
		{api.OpGlueRows, 0, 1, shaped(16, empty), api.ErrArg},
		// The first shape that is refused, not the first error.
		{api.OpAdd, 0, 0, append(shaped(64, long), shaped(16, empty)...), api.ErrLong},
		{api.OpAdd, 0, 0, append(shaped(64, empty), shaped(16, long)...), api.ErrShape},
		{api.OpAdd, 0, 0, append(shaped(16, long), shaped(64, empty)...), api.ErrWidth},
		{api.OpGlueCols, 0, 0, append(shaped(64, [2]int{1, 1}, long), shaped(16, empty)...), api.ErrLong},
		// A shape that is refused goes ahead of widths that are unlike, these ahead of what does not fit.
		{api.OpAdd, 0, 0, append(shaped(64, [2]int{1, 1}), shaped(32, long)...), api.ErrLong},
		{api.OpProduct, 0, 0, append(shaped(64, [2]int{1, 2}), shaped(32, [2]int{3, 1})...), api.ErrWidth},
		{api.OpAdd, 0, 0, append(shaped(64, [2]int{3, 2}), shaped(32, [2]int{2, 3})...), api.ErrWidth},
		{api.OpGlueRows, 0, 0, append(shaped(64, [2]int{1, 2}, [2]int{1, 3}), shaped(32, [2]int{1, 2})...), api.ErrWidth},
		{api.OpWide, 0, 0, shaped(64, long), api.ErrLong},
		{api.OpWide, 0, 0, shaped(64, [2]int{1, 1}), api.ErrWidth},
		{api.OpNarrow, 0, 0, shaped(32, [2]int{1, 1}), api.ErrWidth},
		// What does not fit goes ahead of what is too long.
		{api.OpProduct, 0, 0, shaped(64, [2]int{4096, 1}, [2]int{2, 4}), api.ErrShape},
		{api.OpProduct, 0, 0, shaped(64, [2]int{4096, 1}, [2]int{1, 2}), api.ErrLong},
		{api.OpProduct, 0, 0, shaped(64, [2]int{65, 1}, [2]int{1, 64}), api.ErrLong},
		{api.OpMul, 0, 0, shaped(64, [2]int{65, 1}, [2]int{1, 64}), api.ErrLong},
		{api.OpMul, 0, 0, shaped(64, [2]int{2048, 2}, [2]int{1, 3}), api.ErrShape},
		{api.OpGlueCols, 0, 0, shaped(64, [2]int{64, 64}, [2]int{64, 1}), api.ErrLong},
		{api.OpGlueCols, 0, 0, shaped(64, [2]int{64, 64}, [2]int{64, 1}, [2]int{1, 1}), api.ErrShape},
		{api.OpWindow, 0, 1, shaped(64, [2]int{2, 2}), api.ErrShape},
		{api.OpWindow, 0, 9, shaped(64, [2]int{1, 2}), api.ErrArg},
		{api.OpWindow, 2048, 1, shaped(64, [2]int{1, 4096}), api.ErrLong},
		{api.OpCutCols, 1, 1, shaped(64, [2]int{2, 2}), api.ErrIndex},
		{api.OpCutRows, 0, math.MaxInt, shaped(64, [2]int{2, 2}), api.ErrIndex},
	} {
		if s, e := kernel.Shape(x.op, x.a, x.b, x.in); s != (api.Shape{}) || e != x.want {
			t.Errorf("Shape(%d, %d, %d, %v): %v, %v; want %v", x.op, x.a, x.b, x.in, s, e, x.want)
		}
		alike(t, x.op, x.a, x.b, x.in)
	}
}

// TestP801Ops: the table's operations are all, whatever else is given.
func TestP801Ops(t *testing.T) {
	all := slices.Clone(ends)
	for op := -70; op < 140; op++ {
		all = append(all, op)
	}
	table := ops()
	for _, op := range all {
		for _, in := range [][]api.Matrix{nil, {{}}, list(of(1, 1, 1)), list(of(1, 1, 1), of(1, 1, 1))} {
			for _, a := range []int{0, 1, math.MinInt} {
				m, e := kernel.Do(op, a, a, in)
				_, se := kernel.Shape(op, a, a, shapesOf(in))
				if !slices.Contains(table, op) {
					refused(t, m, e, api.ErrOp, op, a, in)
				}
				if (e == api.ErrOp) != !slices.Contains(table, op) || e != se {
					t.Errorf("operation %d: Do %v, Shape %v", op, e, se)
				}
			}
		}
	}
	if len(table) != 30 {
		t.Errorf("%d operations are tried", len(table))
	}
}

// TestP801Counts: too few and too many matrices, and numbers where there are none, ahead of all that is wrong with what is given.
func TestP801Counts(t *testing.T) {
	for _, op := range ops() {
		takes, numbers, _ := wants(op)
		for count := range 5 {
			for _, m := range []api.Matrix{of(1, 1, 1), {}, ofWidth(32, 2, 2, 1, 2)} {
				in := slices.Repeat(list(m), count)
				got, e := kernel.Do(op, 0, 0, in)
				_, se := kernel.Shape(op, 0, 0, shapesOf(in))
				if takes == -1 && count == 0 || takes != -1 && count != takes {
					refused(t, got, e, api.ErrArg, op, count)
				}
				if e == api.ErrArg != (se == api.ErrArg) {
					t.Errorf("%d of %d: Do %v, Shape %v", op, count, e, se)
				}
			}
		}
		if numbers {
			continue
		}
		for _, n := range []int{1, -1, math.MinInt, math.MaxInt} {
			for _, x := range [][2]int{{n, 0}, {0, n}, {n, n}} {
				for _, m := range []api.Matrix{ofWidth(32, 1, 1, 1), of(1, 1, 1), {}} {
					in := slices.Repeat(list(m), max(takes, 1))
					got, e := kernel.Do(op, x[0], x[1], in)
					refused(t, got, e, api.ErrArg, op, x)
					if s, e := kernel.Shape(op, x[0], x[1], shapesOf(in)); s != (api.Shape{}) || e != api.ErrArg {
						t.Errorf("Shape(%d, %v): %v, %v", op, x, s, e)
					}
				}
			}
		}
	}
}

// TestP802Takes: what Takes tells of an operation is what Shape looks for ahead of the shapes.
func TestP802Takes(t *testing.T) {
	for op := -70; op < 140; op++ {
		for count := range 5 {
			for _, x := range [][2]int{{0, 0}, {1, 0}, {0, 1}, {math.MinInt, math.MaxInt}} {
				if e, want := kernel.Takes(op, x[0], x[1], count), askedOf(op, x[0], x[1], count); e != want {
					t.Errorf("Takes(%d, %v, %d): %v; want %v", op, x, count, e, want)
				}
			}
		}
	}
}

// TestP801Check: the first matrix that is not in form, wherever it stands, ahead of what does not fit.
func TestP801Check(t *testing.T) {
	good := of(1, 1, 1)
	for _, x := range wrongs() {
		for _, op := range ops() {
			switch takes, numbers, _ := wants(op); {
			case takes == 1:
				a := 0
				if numbers {
					a = -1
				}
				m, e := kernel.Do(op, a, a, list(x.m))
				refused(t, m, e, x.want, op, x.m)
			default:
				for _, in := range [][]api.Matrix{{x.m, good}, {good, x.m}, {ofWidth(32, 3, 2, 1, 2, 3, 4, 5, 6), x.m}, {x.m, x.m}} {
					m, e := kernel.Do(op, 0, 0, in)
					refused(t, m, e, x.want, op, in)
				}
			}
		}
	}
	for _, x := range wrongs() {
		for _, y := range wrongs() {
			m, e := kernel.Do(api.OpSub, 0, 0, list(x.m, y.m))
			refused(t, m, e, x.want, "the first one's", x.m, y.m)
			m, e = kernel.Do(api.OpGlueRows, 0, 0, list(good, x.m, y.m))
			refused(t, m, e, x.want, "the first one's", x.m, y.m)
		}
	}
}
