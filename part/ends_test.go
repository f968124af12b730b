package part_test

import (
	"math/rand"
	"slices"
	"testing"

	"pupil/api"
	"pupil/part"
)

// endsOf tells what Ends is to tell: the errors ahead of the rows, then the values row by row.
func endsOf(p api.Plan, params []api.Matrix, s api.Set, rows []int) (losses api.Matrix, outs []api.Matrix, _ api.Where, _ api.Errno) {
	if e := aheadOf(p, params, s, rows); e != api.OK {
		return api.Matrix{}, nil, api.Where{}, e
	}
	for _, r := range rows {
		values, where, e := valuesOf(p, params, s, r)
		if e != api.OK {
			return api.Matrix{}, nil, where, e
		}
		losses.Rows, losses.Cols, losses.Width = len(rows), 1, values[p.Loss].Width
		losses.Bits = append(losses.Bits, values[p.Loss].Bits[0])
		outs = append(outs, values[p.Out])
	}
	return losses, outs, api.Where{}, api.OK
}

// wantEnds wants Ends to tell that, and hands on the error.
func wantEnds(t *testing.T, what string, p api.Plan, params []api.Matrix, s api.Set, rows []int) api.Errno {
	t.Helper()
	losses, outs, where, e := endsOf(p, params, s, rows)
	got, l, at, f := part.Ends(p, params, s, rows)
	if !same(got, losses) || !sameAll(l, outs) || at != where || f != e {
		t.Errorf("%s: Ends: %x, %x, %v, %v, want %x, %x, %v, %v", what, got, l, at, f, losses, outs, where, e)
	}
	return e
}

// TestEnds: rows that are told, rows that stop, and what is refused ahead of them.
func TestEnds(t *testing.T) {
	r := rand.New(rand.NewSource(20))
	for _, w := range widths {
		for range 20 {
			p, params, s := mixed(w), mixedParams(r, w), mixedSet(r, 9, w)
			rows := r.Perm(9)[:1+r.Intn(9)]
			slices.Sort(rows)
			p.Out = r.Intn(len(p.Tape.Nodes))
			if e := wantEnds(t, "some rows", p, params, s, rows); e != api.OK {
				t.Error(e)
			}
			wantEnds(t, "no parameters", p, nil, s, rows)
			wantEnds(t, "no rows", p, params, s, nil)
			wantEnds(t, "rows that fall", p, params, s, []int{1, 0})
		}
		p, params := stopping(w)
		all := kinds(w)
		for i := range all {
			for k := range all {
				wantEnds(t, "rows that stop", p, params, rowsOf(w, []kind{all[0], all[i], all[k]}), upTo(3))
			}
		}
		for _, f := range flaws(w) {
			sk := flawed(w, f)
			wantEnds(t, "a flaw", sk.plan(), sk.matrices(), sk.set, []int{0})
		}
	}
}

// TestEndsApart: what it tells is in memory of its own, where Out is the loss too.
func TestEndsApart(t *testing.T) {
	for _, w := range widths {
		p, params := linear(w)
		s := api.Set{X: vals(2, 1, w, 3, 4), Y: vals(2, 1, w, 5, 6)}
		for out := range p.Tape.Nodes {
			p.Out = out
			losses, outs, _, _ := part.Ends(p, params, s, []int{0, 1})
			fill(outs[0].Bits, -99)
			if losses.Bits[0] != pattern(3, w) || outs[1].Bits[0] == -99 {
				t.Errorf("Out %d: %v, %v", out, losses, outs)
			}
			fill(losses.Bits, -98)
			if outs[1].Bits[0] == -98 {
				t.Errorf("Out %d: %v", out, outs)
			}
			wantEnds(t, "what was handed in", p, params, s, []int{0, 1})
		}
	}
}
