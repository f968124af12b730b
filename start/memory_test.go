package start_test

import (
	"slices"
	"sync"
	"testing"

	"pupil/api"
	"pupil/start"
)

// spoil writes over matrices, their lists and all spare room.
func spoil(l []api.Matrix) {
	for _, m := range l {
		for i := range cap(m.Bits) {
			m.Bits[:cap(m.Bits)][i] = -99
		}
	}
	for i := range cap(l) {
		l[:cap(l)][i] = api.Matrix{Rows: -99}
	}
}

// cloned tells the same matrices in memory of their own.
func cloned(l []api.Matrix) []api.Matrix {
	l = slices.Clone(l)
	for i := range l {
		l[i].Bits = slices.Clone(l[i].Bits)
	}
	return l
}

func allSame(a, b []api.Matrix) bool { return slices.EqualFunc(a, b, same) }

// TestP1604Given: what is handed in is not changed, what stands about it neither; what is done to it later turns no answer.
func TestP1604Given(t *testing.T) {
	edge := api.Init{Kind: -7, A: -8}
	bad := append(several(), api.Init{Kind: 9})
	for _, given := range [][]api.Init{several(), many(64), many(65), bad, nil} {
		full := slices.Concat([]api.Init{edge}, given, []api.Init{edge, edge, edge})
		was := slices.Clone(full)
		l := full[1 : 1+len(given)]
		got, at, e := start.All(l, 4)
		if !slices.Equal(full, was) {
			t.Errorf("what is handed in is changed: %v", full)
		}
		want := cloned(got)
		clear(full)
		if !allSame(got, want) {
			t.Errorf("an answer hangs on what was handed in: %v", got)
		}
		again, place, f := start.All(given, 4)
		if !allSame(again, want) || place != at || f != e {
			t.Errorf("the same call: %v, %d, %v; then %v, %d, %v", want, at, e, again, place, f)
		}
	}
}

// TestP1604Apart: no two lists of one answer, or of two, share memory.
func TestP1604Apart(t *testing.T) {
	one, _, _ := start.All(many(64), 4)
	other, _, _ := start.All(many(64), 4)
	want := cloned(other)
	for i := range one {
		rest := cloned(one)
		spoil([]api.Matrix{one[i]})
		for j := range one {
			if i != j && !same(one[j], rest[j]) {
				t.Errorf("the parameters %d and %d share memory", i, j)
			}
		}
	}
	spoil(one)
	if !allSame(other, want) {
		t.Error("two answers share memory")
	}
	spoil(other)
	again, _, _ := start.All(many(64), 4)
	if !allSame(again, want) {
		t.Error("an answer is kept")
	}
	for i, x := range several() {
		m, n := must(t, x, 5, i), must(t, x, 5, i)
		want := cloned([]api.Matrix{n})
		spoil([]api.Matrix{m})
		if !allSame([]api.Matrix{n}, want) || !same(must(t, x, 5, i), want[0]) {
			t.Errorf("Make's answers share memory: %+v", x)
		}
	}
}

// TestP1604Again: the same call tells the same, whatever was called ahead of it or beside it.
func TestP1604Again(t *testing.T) {
	want, _, _ := start.All(many(20), 6)
	var group sync.WaitGroup
	got := make([][]api.Matrix, 8)
	for i := range got {
		group.Add(1)
		go func() {
			defer group.Done()
			for j := range 5 {
				start.All(many(i+j), i)
				start.Make(api.Init{Kind: j, Rows: 1}, i, j)
				got[i], _, _ = start.All(many(20), 6)
			}
		}()
	}
	group.Wait()
	for _, l := range got {
		if !allSame(l, want) {
			t.Errorf("%v, want %v", l, want)
		}
	}
}
