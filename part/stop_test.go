package part_test

import (
	"math/rand"
	"slices"
	"strconv"
	"testing"

	"pupil/api"
	"pupil/part"
)

// stopping is a plan whose loss is y times the sum of the logarithms of x's first two and of the roots of its last two, each times a parameter's element, 1 and 0.
func stopping(width int) (api.Plan, []api.Matrix) {
	p := planOf(4, 10, input(0, 1, 4, width), input(1, 1, 1, width), param(0, 1, 2, width),
		numbers(api.OpCutCols, 0, 2, 0), takes(api.OpLog, 3), numbers(api.OpCutCols, 2, 4, 0), takes(api.OpSqrt, 5), takes(api.OpMul, 6, 2),
		takes(api.OpAdd, 4, 7), takes(api.OpSum, 8), takes(api.OpMul, 9, 1))
	return p, []api.Matrix{vals(1, 2, width, 1, 0)}
}

// kind is a row of it: where it stops, and why; OK: it does not.
type kind struct {
	x, y  []float64
	where api.Where
	e     api.Errno
}

// kinds are rows that stop everywhere, and some that don't.
func kinds(width int) []kind {
	value := func(node, at int) api.Where { return api.Where{Kind: api.InValue, Node: node, At: at} }
	adjoint := func(node, at int) api.Where { return api.Where{Kind: api.InAdjoint, Node: node, At: at} }
	tiny, great := 1e-300, 1e308
	if width == 32 {
		tiny, great = 1e-38, 1e38
	}
	one := []float64{1}
	return []kind{
		{x: []float64{1, 2, 3, 4}, y: one},
		{x: []float64{5, 0.5, 9, 0.25}, y: []float64{-3}},
		{[]float64{0, 1, 1, 1}, one, value(4, 0), api.ErrInf},
		{[]float64{1, 0, 1, 1}, one, value(4, 1), api.ErrInf},
		{[]float64{-1, 1, 1, 1}, one, value(4, 0), api.ErrNaN},
		{[]float64{1, -2, 1, 1}, one, value(4, 1), api.ErrNaN},
		{[]float64{-1, 0, 1, 1}, one, value(4, 0), api.ErrNaN},
		{[]float64{0, -1, 1, 1}, one, value(4, 0), api.ErrInf},
		{[]float64{1, 1, -1, 1}, one, value(6, 0), api.ErrNaN},
		{[]float64{1, 1, 1, -1}, one, value(6, 1), api.ErrNaN},
		{[]float64{1, 0, -1, -1}, one, value(4, 1), api.ErrInf},
		{[]float64{1, 1, -1, 0}, one, value(6, 0), api.ErrNaN}, // Its adjoints would stop too.
		{[]float64{1, 1, 1e10, 1}, []float64{great}, value(10, 0), api.ErrInf},
		{[]float64{1, 1, 1e10, 1}, []float64{-great}, value(10, 0), api.ErrInf},
		{[]float64{1, 1, 0, 1}, one, adjoint(5, 0), api.ErrInf},
		{[]float64{1, 1, 0, 1}, []float64{-1}, adjoint(5, 0), api.ErrInf},
		{[]float64{1, 1, 0, 1}, []float64{0}, adjoint(5, 0), api.ErrNaN},
		{[]float64{1, 1, 1, 0}, one, adjoint(5, 1), api.ErrNaN},
		{[]float64{1, 1, 0, 0}, one, adjoint(5, 0), api.ErrInf},
		{[]float64{tiny, 1, 1, 1}, []float64{1e10}, adjoint(3, 0), api.ErrInf},
		{[]float64{1, tiny, 1, 1}, []float64{-1e10}, adjoint(3, 1), api.ErrInf},
		{[]float64{tiny, 1, 1, 0}, []float64{1e10}, adjoint(5, 1), api.ErrNaN},
	}
}

// rowsOf makes a set of such rows.
func rowsOf(width int, l []kind) api.Set {
	s := api.Set{X: matrix(len(l), 4, width), Y: matrix(len(l), 1, width)}
	for _, k := range l {
		s.X.Bits = append(s.X.Bits, vals(1, 4, width, k.x...).Bits...)
		s.Y.Bits = append(s.Y.Bits, vals(1, 1, width, k.y...).Bits...)
	}
	return s
}

// least tells the least of some rows that stops, with its number.
func least(l []kind, rows []int) (api.Where, api.Errno) {
	for _, r := range rows {
		if l[r].e != api.OK {
			where := l[r].where
			where.Row = r
			return where, l[r].e
		}
	}
	return api.Where{}, api.OK
}

// wantLeast wants Of to stop as the least of the rows does, if one does.
func wantLeast(t *testing.T, what string, width int, l []kind, rows []int) {
	t.Helper()
	p, params := stopping(width)
	s := rowsOf(width, l)
	where, e := least(l, rows)
	if e == api.OK {
		wantOf(t, what, p, params, s, rows)
		return
	}
	wantStop(t, what, p, params, s, rows, where, e)
}

// TestP2002Stops: each kind of row alone, wherever it stands.
func TestP2002Stops(t *testing.T) {
	for _, w := range widths {
		l := kinds(w)
		p, params := stopping(w)
		for r := range l {
			wantLeast(t, "kind "+strconv.Itoa(r), w, l, []int{r})
			wantLeast(t, "kind "+strconv.Itoa(r)+" by itself", w, l[r:r+1], []int{0})
			_, where, e := wantOf(t, "by the words", p, params, rowsOf(w, l), []int{r})
			if want, f := least(l, []int{r}); where != want || e != f {
				t.Errorf("kind %d: the words say %v, %v, not %v, %v", r, where, e, want, f)
			}
		}
	}
}

// TestP2002Parameter: adjoints that stop at the node of a parameter, whose number is another one; no value stops.
func TestP2002Parameter(t *testing.T) {
	for _, w := range widths {
		p := planOf(3, 5, input(0, 1, 1, w), input(1, 1, 1, w), param(1, 1, 2, w), takes(api.OpMul, 0, 2), takes(api.OpSum, 3), takes(api.OpMul, 4, 1), param(0, 1, 1, w))
		great, tiny := 1e200, 1e-250
		if w == 32 {
			great, tiny = 1e30, 1e-35
		}
		params := []api.Matrix{vals(1, 1, w, 1), vals(1, 2, w, tiny, tiny)}
		s := api.Set{X: vals(3, 1, w, 1, great, great), Y: vals(3, 1, w, 1, great, 1)}
		at := api.Where{Kind: api.InAdjoint, Row: 1, Node: 2}
		wantStop(t, "a parameter", p, params, s, upTo(3), at, api.ErrInf)
		wantStop(t, "a parameter", p, params, s, []int{1}, at, api.ErrInf)
		wantOf(t, "without it", p, params, s, []int{0, 2})
	}
}

// TestP2007Pairs: of two rows that stop the lesser one is told, whatever both are, and whatever stands between.
func TestP2007Pairs(t *testing.T) {
	for _, w := range widths {
		all := kinds(w)
		for i := range all {
			for k := range all {
				l := []kind{all[0], all[i], all[1], all[k], all[0]}
				wantLeast(t, "both", w, l, upTo(5))
				wantLeast(t, "the second one", w, l, []int{0, 2, 3, 4})
				wantLeast(t, "the first one", w, l, []int{1})
			}
		}
	}
}

// TestP2007Alone: what is told of many rows is what is told of the least one that stops, alone.
func TestP2007Alone(t *testing.T) {
	r := rand.New(rand.NewSource(2007))
	for _, w := range widths {
		all := kinds(w)
		p, params := stopping(w)
		for range 60 {
			var l []kind
			for range 2 + r.Intn(40) {
				l = append(l, all[r.Intn(len(all))*r.Intn(2)])
			}
			rows := r.Perm(len(l))[:1+r.Intn(len(l))]
			slices.Sort(rows)
			wantLeast(t, "some", w, l, rows)
			where, e := least(l, rows)
			if e == api.OK {
				continue
			}
			s := rowsOf(w, l)
			wantStop(t, "alone", p, params, s, []int{where.Row}, where, e)
			wantStop(t, "the last of those up to it", p, params, s, rows[:slices.Index(rows, where.Row)+1], where, e)
			wantStop(t, "without all ahead", p, params, s, rows[slices.Index(rows, where.Row):], where, e)
		}
	}
}

// TestP2007Many: as many rows as a batch may have, of a set that has more; the row's own number is told.
func TestP2007Many(t *testing.T) {
	for _, w := range widths {
		all := kinds(w)
		for _, stops := range [][]int{{999}, {744}, {800, 801}, {998, 999}, {745, 999}, {0, 743, 900}} {
			l := slices.Repeat(all[:1], 1000)
			for i, r := range stops {
				l[r] = all[2+12*i%20]
			}
			wantLeast(t, "many", w, l, upTo(1000)[744:])
		}
	}
}

// slow is the stopping plan with so many nodes behind it that a row that does not stop at once takes long.
func slow(nodes int) (api.Plan, []api.Matrix) {
	p, params := stopping(64)
	p.Tape.Nodes = append(p.Tape.Nodes, constant(some(rand.New(rand.NewSource(1)), 1, 64, 64)))
	for range nodes {
		p.Tape.Nodes = append(p.Tape.Nodes, takes(api.OpTanh, len(p.Tape.Nodes)-1))
	}
	return p, params
}

// TestP2007Slow: a lesser row that stops long behind the others.
func TestP2007Slow(t *testing.T) {
	all := kinds(64)
	p, params := slow(40)
	for _, late := range []int{14, 17, 19} { // Those stop in their adjoints.
		for _, quick := range []int{2, 5, 9} {
			l := slices.Concat(all[late:late+1], slices.Repeat(all[quick:quick+1], 30))
			where, e := least(l, upTo(31))
			wantStop(t, "late", p, params, rowsOf(64, l), upTo(31), where, e)
		}
	}
}

// TestP2007Sides: rows beside it that would stop at an earlier node, or in a value, turn nothing; nor do the parameters that only they hang on.
func TestP2007Sides(t *testing.T) {
	all := kinds(64)
	late := all[19]
	for _, beside := range all {
		wantLeast(t, "behind", 64, []kind{late, beside, beside, beside}, upTo(4))
	}
	p, params := stopping(64)
	s := rowsOf(64, []kind{late, all[2]})
	for _, x := range [][]int{{0}, {0, 1}} {
		got, at, e := part.Of(p, params, s, x)
		if !zeroPart(got) || at != (api.Where{Kind: api.InAdjoint, Node: 3}) || e != api.ErrInf {
			t.Errorf("%v, %v, %v", got, at, e)
		}
	}
}
