package data_test

import (
	"math/rand"
	"testing"

	"pupil/api"
	"pupil/data"
)

// wantCheck wants Check to tell a row and an error, and Row and Pick the same error, whatever else they are asked.
func wantCheck(t *testing.T, s api.Set, row int, e api.Errno) {
	t.Helper()
	if r, f := data.Check(s); r != row || f != e {
		t.Errorf("Check(%x): %d, %v, want %d, %v", s, r, f, row, e)
	}
	if e == api.OK {
		return
	}
	for _, r := range []int{0, row, -1, 99, lowest, highest} {
		if x, y, f := data.Row(s, r); !zero(x) || !zero(y) || f != e {
			t.Errorf("Row(%x, %d): %x, %x, %v, want %v", s, r, x, y, f, e)
		}
	}
	for _, rows := range [][]int{nil, {0}, {-1}, make([]int, 5000)} {
		if p, f := data.Pick(s, rows); !zero(p.X) || !zero(p.Y) || f != e {
			t.Errorf("Pick(%x, %d of %d): %x, %v, want %v", s, len(rows), rows[:min(1, len(rows))], p, f, e)
		}
	}
}

// setOf makes a set of so many rows.
func setOf(rows, xs, ys, width int) api.Set {
	return api.Set{X: numbered(rows, xs, width, 1), Y: numbered(rows, ys, width, 1000)}
}

// TestP1901Right: sets of all shapes are sets.
func TestP1901Right(t *testing.T) {
	for _, w := range widths {
		for _, c := range [][3]int{{1, 1, 1}, {1, 4096, 1}, {1, 1, 4096}, {1, 4096, 4096}, {4096, 1, 1}, {64, 64, 1}, {64, 1, 64}, {3, 2, 5}, {1365, 3, 1}} {
			wantCheck(t, setOf(c[0], c[1], c[2], w), 0, api.OK)
		}
		great := greatestOf(w)
		edges := matrix(2, 4, w, 0, minusOf(w), 1, negative(1, w), great, negative(great, w), great-1, 2)
		wantCheck(t, api.Set{X: edges, Y: edges}, 0, api.OK)
	}
}

// TestP1901Form: X's error comes first, then Y's, then that of unlike widths, then that of unlike rows; the row beside them is 0.
func TestP1901Form(t *testing.T) {
	all := misshapes()
	for _, w := range widths {
		inf := infinityOf(w)
		good := []api.Matrix{numbered(1, 1, w, 1), numbered(3, 2, w, 1), matrix(2, 1, w, 0, inf)}
		for _, bad := range all {
			for _, m := range good {
				wantCheck(t, api.Set{X: bad.m, Y: m}, 0, bad.e)
				wantCheck(t, api.Set{X: m, Y: bad.m}, 0, bad.e)
			}
		}
	}
	for _, x := range all {
		for _, y := range all {
			s := api.Set{X: x.m, Y: y.m}
			if r, e := data.Check(s); r != 0 || e != x.e {
				t.Errorf("Check(%x): %d, %v, want %v", s, r, e, x.e)
			}
		}
	}
}

// TestP1901Unlike: widths, then rows, then what is not finite.
func TestP1901Unlike(t *testing.T) {
	for _, w := range widths {
		v := 96 - w
		for _, c := range []struct {
			x, y api.Matrix
			e    api.Errno
		}{
			{numbered(2, 2, w, 1), numbered(2, 2, v, 1), api.ErrWidth},
			{numbered(2, 2, w, 1), numbered(3, 2, v, 1), api.ErrWidth},
			{numbered(2, 2, w, 1), numbered(3, 2, w, 1), api.ErrShape},
			{numbered(3, 2, w, 1), numbered(2, 3, w, 1), api.ErrShape},
			{numbered(1, 4, w, 1), numbered(4, 1, w, 1), api.ErrShape},
			{numbered(2, 1, w, 1), numbered(1, 1, w, 1), api.ErrShape},
			{numbered(4096, 1, w, 1), numbered(4095, 1, w, 1), api.ErrShape},
			{numbered(2, 1, w, 1), numbered(2, 4, w, 1), api.OK},
		} {
			wantCheck(t, api.Set{X: c.x, Y: c.y}, 0, c.e)
			if c.e == api.OK {
				continue
			}
			for b := range notFinite(w) {
				wantCheck(t, api.Set{X: with(c.x, len(c.x.Bits)-1, b), Y: c.y}, 0, c.e)
			}
			for b := range notFinite(c.y.Width) {
				wantCheck(t, api.Set{X: c.x, Y: with(c.y, len(c.y.Bits)-1, b)}, 0, c.e)
			}
		}
	}
}

// firstRow tells the first row that is not finite, with what is said of it, by the chapter's words.
func firstRow(s api.Set) (int, api.Errno) {
	for r := range s.X.Rows {
		for _, m := range []api.Matrix{s.X, s.Y} {
			for c := range m.Cols {
				if e := refusal(m.Bits[r*m.Cols+c], m.Width); e != api.OK {
					return r, e
				}
			}
		}
	}
	return 0, api.OK
}

// spots tells sets with elements that are not finite at one place, or at two, X's places ahead of Y's.
func spots(s api.Set, bad []int, tell func(api.Set)) {
	put := func(s api.Set, at, b int) api.Set {
		if at < len(s.X.Bits) {
			s.X = with(s.X, at, b)
		} else {
			s.Y = with(s.Y, at-len(s.X.Bits), b)
		}
		return s
	}
	all := len(s.X.Bits) + len(s.Y.Bits)
	for i := range all {
		for _, b := range bad {
			one := put(s, i, b)
			tell(one)
			for j := range i {
				for _, c := range bad {
					tell(put(one, j, c))
				}
			}
		}
	}
}

// TestP1901Rows: the first row of all that has one, and the error by its first such element: X's ahead of Y's.
func TestP1901Rows(t *testing.T) {
	for _, w := range widths {
		var bad []int
		for b := range notFinite(w) {
			bad = append(bad, b)
		}
		for _, c := range [][3]int{{1, 1, 1}, {3, 2, 2}, {4, 1, 2}, {3, 3, 1}, {5, 1, 1}} {
			seen := map[[2]int]int{}
			spots(setOf(c[0], c[1], c[2], w), bad, func(s api.Set) {
				row, e := firstRow(s)
				seen[[2]int{row, int(e)}]++
				wantCheck(t, s, row, e)
			})
			if len(seen) != 2*c[0] {
				t.Errorf("only %d rows and errors", len(seen))
			}
		}
	}
}

// TestP1901Hand: what the words say, by hand.
func TestP1901Hand(t *testing.T) {
	for _, w := range widths {
		inf, none := infinityOf(w), infinityOf(w)+1
		less := negative(inf, w)
		for _, c := range []struct {
			x, y []int
			row  int
			e    api.Errno
		}{
			{[]int{0, 0, 0, 0, 0, none}, []int{0, 0, inf}, 2, api.ErrNaN},
			{[]int{0, 0, 0, 0, 0, less}, []int{0, 0, none}, 2, api.ErrInf},
			{[]int{0, 0, 0, 0, none, inf}, []int{0, inf, 0}, 1, api.ErrInf},
			{[]int{0, 0, inf, none, none, none}, []int{0, none, none}, 1, api.ErrInf},
			{[]int{0, none, inf, inf, inf, inf}, []int{inf, inf, inf}, 0, api.ErrNaN},
			{[]int{0, 0, none, 0, 0, 0}, []int{less, 0, 0}, 0, api.ErrInf},
			{[]int{0, 0, 0, 0, 0, 0}, []int{0, 0, none}, 2, api.ErrNaN},
			{[]int{0, 0, 0, 0, 0, 0}, []int{0, 0, 0}, 0, api.OK},
		} {
			wantCheck(t, api.Set{X: matrix(3, 2, w, c.x...), Y: matrix(3, 1, w, c.y...)}, c.row, c.e)
		}
		long := api.Set{X: matrix(4096, 1, w, make([]int, 4096)...), Y: matrix(4096, 1, w, make([]int, 4096)...)}
		wantCheck(t, api.Set{X: with(long.X, 4095, less), Y: long.Y}, 4095, api.ErrInf)
		wantCheck(t, api.Set{X: with(long.X, 4095, less), Y: with(long.Y, 2000, none)}, 2000, api.ErrNaN)
	}
}

// pickOf is Pick of what it does not refuse.
func pickOf(s api.Set, rows []int) api.Set {
	take := func(m api.Matrix) api.Matrix {
		made := matrix(len(rows), m.Cols, m.Width)
		for _, r := range rows {
			for c := range m.Cols {
				made.Bits = append(made.Bits, m.Bits[r*m.Cols+c])
			}
		}
		return made
	}
	return api.Set{X: take(s.X), Y: take(s.Y)}
}

func wantPick(t *testing.T, s api.Set, rows []int) {
	t.Helper()
	if p, e := data.Pick(s, rows); e != api.OK || !sameSet(p, pickOf(s, rows)) {
		t.Errorf("Pick(%x, %d): %x, %v, want %x", s, rows, p, e, pickOf(s, rows))
	}
}

func wantNoPick(t *testing.T, s api.Set, rows []int, e api.Errno) {
	t.Helper()
	if p, f := data.Pick(s, rows); !zero(p.X) || !zero(p.Y) || f != e {
		t.Errorf("Pick of %d rows: %x, %v, want %v", len(rows), p, f, e)
	}
}

// TestP1902Row: every row of sets; those that are none.
func TestP1902Row(t *testing.T) {
	for _, w := range widths {
		for _, c := range [][3]int{{1, 1, 1}, {1, 3, 2}, {4, 2, 3}, {5, 1, 1}, {64, 64, 2}, {4096, 1, 1}, {1, 4096, 4096}} {
			s := setOf(c[0], c[1], c[2], w)
			for r := range c[0] {
				x, y, e := data.Row(s, r)
				if want := pickOf(s, []int{r}); e != api.OK || !same(x, want.X) || !same(y, want.Y) {
					t.Fatalf("Row(%d of %d): %x, %x, %v, want %x", r, c, x, y, e, want)
				}
				if r > 100 && r < 4000 {
					continue
				}
				wantPick(t, s, []int{r})
			}
			for _, r := range []int{-1, -2, -c[0], c[0], c[0] + 1, lowest, lowest + 1, highest, highest - 1, 1 << 32, -1 << 32} {
				if x, y, e := data.Row(s, r); !zero(x) || !zero(y) || e != api.ErrRow {
					t.Errorf("Row(%d of %d): %x, %x, %v", r, c, x, y, e)
				}
				wantNoPick(t, s, []int{r}, api.ErrRow)
			}
		}
	}
}

// TestP1902Bits: elements go as they are, -0 too.
func TestP1902Bits(t *testing.T) {
	for _, w := range widths {
		great := greatestOf(w)
		s := api.Set{X: matrix(2, 3, w, 0, minusOf(w), 1, negative(1, w), great, negative(great, w)), Y: matrix(2, 1, w, minusOf(w), great)}
		wantPick(t, s, []int{1, 0, 0, 1})
		x, y, e := data.Row(s, 0)
		if !same(x, matrix(1, 3, w, 0, minusOf(w), 1)) || !same(y, matrix(1, 1, w, minusOf(w))) || e != api.OK {
			t.Errorf("%x, %x, %v", x, y, e)
		}
	}
}

// TestP1902Pick: no rows, one, all, some twice, in any order.
func TestP1902Pick(t *testing.T) {
	r := rand.New(rand.NewSource(1902))
	for _, w := range widths {
		for _, c := range [][3]int{{1, 1, 1}, {4, 2, 3}, {7, 3, 1}, {5, 1, 4}} {
			s := setOf(c[0], c[1], c[2], w)
			wantNoPick(t, s, nil, api.ErrNone)
			wantNoPick(t, s, []int{}, api.ErrNone)
			wantNoPick(t, s, make([]int, 0, 9), api.ErrNone)
			all := r.Perm(c[0])
			wantPick(t, s, all)
			wantPick(t, s, append(all, all...))
			for range 50 {
				var rows []int
				for range 1 + r.Intn(20) {
					rows = append(rows, r.Intn(c[0]))
				}
				wantPick(t, s, rows)
				rows[r.Intn(len(rows))] = []int{-1, c[0], lowest, highest}[r.Intn(4)]
				wantNoPick(t, s, rows, api.ErrRow)
			}
		}
	}
}

// TestP1902None: rows that are none, first or last, one or several, among such as there are.
func TestP1902None(t *testing.T) {
	s := setOf(4, 2, 3, 64)
	for _, rows := range [][]int{{4}, {0, 4}, {4, 0}, {0, 1, 2, 3, 4}, {-1, 0}, {0, -1, 5}, {5, -1}, {highest, lowest}, {0, 0, 0, highest}, {lowest, 3}, {3, 3, -4}} {
		wantNoPick(t, s, rows, api.ErrRow)
	}
}

// TestP1902Long: as many rows as just fit into X and Y, and one more; a row that is none comes ahead of that.
func TestP1902Long(t *testing.T) {
	for _, w := range widths {
		for _, c := range [][2]int{{1, 1}, {3, 1}, {1, 3}, {5, 3}, {3, 5}, {64, 1}, {1, 64}, {64, 64}, {2048, 2}, {2, 2049}, {4096, 1}, {1, 4096}, {4096, 4096}, {4095, 1}} {
			s := setOf(1, c[0], c[1], w)
			fit := api.MaxElems / max(c[0], c[1])
			wantPick(t, s, make([]int, fit))
			for _, more := range []int{1, 2, 70000} {
				wantNoPick(t, s, make([]int, fit+more), api.ErrLong)
				rows := make([]int, fit+more)
				rows[fit] = 1
				wantNoPick(t, s, rows, api.ErrRow)
			}
		}
	}
}
