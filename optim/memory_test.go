package optim_test

import (
	"math/rand"
	"slices"
	"sync"
	"testing"

	"pupil/api"
	"pupil/optim"
)

// guard keeps lists that were laid into longer ones, with something ahead of each and room behind it.
type guard struct {
	ints     [][]int
	matrices [][]api.Matrix
}

// matrix lays a matrix's bits into a longer list.
func (g *guard) matrix(m api.Matrix) api.Matrix {
	full := slices.Concat([]int{-7, -8}, m.Bits, []int{-9, -10, -11})
	g.ints = append(g.ints, full)
	m.Bits = full[2 : 2+len(m.Bits)]
	return m
}

// list lays matrices into a longer list, their bits too.
func (g *guard) list(l []api.Matrix) []api.Matrix {
	full := slices.Concat([]api.Matrix{{Rows: -1}}, l, []api.Matrix{{Rows: -2}, {Rows: -3}})
	for i := range l {
		full[i+1] = g.matrix(l[i])
	}
	g.matrices = append(g.matrices, full)
	return full[1 : 1+len(l)]
}

// whole tells all that stands there, in memory of its own.
func (g *guard) whole() guard {
	var w guard
	for _, l := range g.ints {
		w.ints = append(w.ints, slices.Clone(l))
	}
	for _, l := range g.matrices {
		w.matrices = append(w.matrices, cloned(l))
	}
	return w
}

func (g *guard) same(h guard) bool {
	return slices.EqualFunc(g.ints, h.ints, slices.Equal[[]int]) && slices.EqualFunc(g.matrices, h.matrices, allSame)
}

// spoil writes over all of it.
func (g *guard) spoil() {
	for _, l := range g.ints {
		fill(l)
	}
	for _, l := range g.matrices {
		fillMatrices(l)
	}
}

// fill and fillMatrices write over a list and its spare room.
func fill(l []int) {
	for i := range cap(l) {
		l[:cap(l)][i] = -99
	}
}

func fillMatrices(l []api.Matrix) {
	for i := range cap(l) {
		l[:cap(l)][i] = api.Matrix{Rows: -99}
	}
}

// call is a call with what it is given; it tells all matrices of its answer, the one that stands alone first.
type call struct {
	name string
	make func(g *guard) func() (l []api.Matrix, lists [][]api.Matrix, at int, e api.Errno)
}

func stepCall(name string, a asked) call {
	return call{name, func(g *guard) func() ([]api.Matrix, [][]api.Matrix, int, api.Errno) {
		w, gradient, slots := g.matrix(a.w), g.matrix(a.g), g.list(a.slots)
		return func() ([]api.Matrix, [][]api.Matrix, int, api.Errno) {
			made, kept, at, e := optim.Step(a.r, a.rate, w, gradient, slots)
			return append([]api.Matrix{made}, kept...), [][]api.Matrix{kept}, at, e
		}
	}}
}

func scaleCall(name string, norm int, gs []api.Matrix) call {
	return call{name, func(g *guard) func() ([]api.Matrix, [][]api.Matrix, int, api.Errno) {
		given := g.list(gs)
		return func() ([]api.Matrix, [][]api.Matrix, int, api.Errno) {
			made, e := optim.Scale(norm, given)
			return slices.Clone(made), [][]api.Matrix{made}, 0, e
		}
	}}
}

func freshCall(name string, r api.Rule, w api.Matrix) call {
	return call{name, func(g *guard) func() ([]api.Matrix, [][]api.Matrix, int, api.Errno) {
		given := g.matrix(w)
		return func() ([]api.Matrix, [][]api.Matrix, int, api.Errno) {
			made, e := optim.Fresh(r, given)
			return slices.Clone(made), [][]api.Matrix{made}, 0, e
		}
	}}
}

// calls are calls of all kinds: answered ones, refused ones, ones whose matrices are answered as they are.
func calls() []call {
	r := rand.New(rand.NewSource(6))
	var l []call
	for _, width := range widths {
		for _, kind := range kinds {
			a := likely(r, anyStep(r, kind, 2, 3, width, common))
			l = append(l, stepCall("a step", a), freshCall("fresh slots", a.r, a.w))
			still := asked{r: plainRule(kind), w: a.w, g: filled(2, 3, width, 0), slots: beginning(kind, a.w)}
			l = append(l, stepCall("a step that leaves all", still))
			bad := a
			bad.slots = append(cloned(a.slots), a.w)
			l = append(l, stepCall("a refused step", bad), freshCall("refused slots", api.Rule{Kind: 9}, a.w))
			far := right(kind, width)
			far.rate = bitsOf(1e30)
			far.w, far.g = filled(2, 3, width, 1), filled(2, 3, width, pattern(greatest(width), width))
			l = append(l, stepCall("a step that does not come out", far))
		}
		for _, x := range spots(greatest(width)) {
			l = append(l, stepCall(x.name, among(x, width, 5, 3)))
		}
		gs := list(random(r, 2, 2, width, common), random(r, 1, 3, 32, common), random(r, 3, 1, 64, common))
		for _, norm := range []int{0, minus, 1, bitsOf(0.01), bitsOf(1e300), api.NaN} {
			l = append(l, scaleCall("scaled", norm, gs), scaleCall("none", norm, nil), scaleCall("refused", norm, append(cloned(gs), api.Matrix{})))
		}
	}
	// One matrix that is handed in twice is two that are answered.
	m := vals(64, 3, 4)
	for _, norm := range []int{0, bitsOf(1), bitsOf(100)} {
		l = append(l, scaleCall("the same one twice", norm, list(m, m)))
	}
	return l
}

// TestP1707Given: what is handed in is not changed, what stands about it neither; what is done to it later turns no answer; the same call tells the same again.
func TestP1707Given(t *testing.T) {
	for _, c := range calls() {
		var g guard
		do := c.make(&g)
		was := g.whole()
		got, lists, at, e := do()
		if !g.same(was) {
			t.Errorf("%s: what is handed in is changed", c.name)
		}
		want := cloned(got)
		g.spoil()
		if !allSame(got, want) || len(lists[0]) > 0 && !allSame(lists[0], want[len(want)-len(lists[0]):]) {
			t.Errorf("%s: an answer hangs on what was handed in: %x, want %x", c.name, got, want)
		}
		var h guard
		again, _, place, f := c.make(&h)()
		if !allSame(again, want) || place != at || f != e {
			t.Errorf("%s: %x, %d, %v; then %x, %d, %v", c.name, want, at, e, again, place, f)
		}
	}
}

// TestP1707Apart: no two lists of one answer, or of two, share memory; nothing that is answered is kept.
func TestP1707Apart(t *testing.T) {
	for _, c := range calls() {
		var g guard
		do := c.make(&g)
		was := g.whole()
		one, lists, _, _ := do()
		other, _, _, _ := do()
		want := cloned(other)
		for i := range one {
			rest := cloned(one)
			fill(one[i].Bits)
			for j := range one {
				if i != j && !same(one[j], rest[j]) {
					t.Errorf("%s: %d and %d share memory", c.name, i, j)
				}
			}
		}
		for _, l := range lists {
			fillMatrices(l)
		}
		again, _, _, _ := do()
		if !allSame(other, want) || !allSame(again, want) {
			t.Errorf("%s: two answers share memory, or one is kept", c.name)
		}
		if !g.same(was) {
			t.Errorf("%s: an answer shares memory with what was handed in", c.name)
		}
	}
}

// TestP1707One: what is handed in at several places at once is none of what is answered.
func TestP1707One(t *testing.T) {
	for _, width := range widths {
		m := vals(width, 1, 2)
		r := api.Rule{Kind: api.RuleAdam, Momentum: bitsOf(0.5), Beta: bitsOf(0.5), Eps: one}
		apart := asked{r: r, rate: bitsOf(0.125), w: vals(width, 1, 2), g: vals(width, 1, 2), slots: list(vals(width, 1, 2), vals(width, 1, 2), vals(width, 1, 2))}
		together := asked{r: r, rate: bitsOf(0.125), w: m, g: m, slots: list(m, m, m)}
		if got, want := together.step(), apart.step(); !got.same(want) || !same(m, vals(width, 1, 2)) {
			t.Errorf("%x, want %x; %x", got, want, m)
		}
		held(t, together, alone)
	}
}

// TestP1707Again: the same call tells the same, whatever was called ahead of it or beside it.
func TestP1707Again(t *testing.T) {
	tell := func() (l [][]api.Matrix, errors []int) {
		for _, c := range calls() {
			var g guard
			made, _, at, e := c.make(&g)()
			l, errors = append(l, made), append(errors, at, int(e))
		}
		return l, errors
	}
	want, faults := tell()
	var group sync.WaitGroup
	for range 8 {
		group.Add(1)
		go func() {
			defer group.Done()
			if got, f := tell(); !slices.EqualFunc(got, want, allSame) || !slices.Equal(f, faults) {
				t.Error("a call tells something else beside others")
			}
		}()
	}
	group.Wait()
}
