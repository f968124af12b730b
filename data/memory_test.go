package data_test

import (
	"slices"
	"sync"
	"testing"

	"pupil/api"
	"pupil/data"
)

// guard keeps lists that were laid into longer ones, with something ahead of each and room behind it.
type guard struct{ lists [][]int }

// list lays a list into a longer one.
func (g *guard) list(l []int) []int {
	full := slices.Concat([]int{-7, -8}, l, []int{-9, -10, -11})
	g.lists = append(g.lists, full)
	return full[2 : 2+len(l)]
}

func (g *guard) matrix(m api.Matrix) api.Matrix {
	m.Bits = g.list(m.Bits)
	return m
}

func (g *guard) set(s api.Set) api.Set { return api.Set{X: g.matrix(s.X), Y: g.matrix(s.Y)} }

// clones tells lists as they are, in memory of their own.
func clones(lists [][]int) [][]int {
	var all [][]int
	for _, l := range lists {
		all = append(all, slices.Clone(l))
	}
	return all
}

func sameLists(a, b [][]int) bool { return slices.EqualFunc(a, b, slices.Equal[[]int]) }

// fill writes over a list and its spare room.
func fill(l []int) {
	for i := range cap(l) {
		l[:cap(l)][i] = -99
	}
}

// answer is what a call tells: its lists, and all else as numbers.
type answer struct {
	lists [][]int
	rest  []int
}

func (a answer) same(b answer) bool {
	return sameLists(a.lists, b.lists) && slices.Equal(a.rest, b.rest)
}

func (a answer) copied() answer { return answer{clones(a.lists), slices.Clone(a.rest)} }

func told(e api.Errno, at int, l ...api.Matrix) answer {
	a := answer{rest: []int{int(e), at}}
	for _, m := range l {
		a.lists = append(a.lists, m.Bits)
		a.rest = append(a.rest, m.Rows, m.Cols, m.Width)
	}
	return a
}

// call lays what it is given into a guard; what it tells then calls with that.
type call func(g *guard) func() answer

func setCalls(s api.Set, rows []int, row int) []call {
	return []call{
		func(g *guard) func() answer {
			given := g.set(s)
			return func() answer {
				r, e := data.Check(given)
				return told(e, r)
			}
		},
		func(g *guard) func() answer {
			given := g.set(s)
			return func() answer {
				x, y, e := data.Row(given, row)
				return told(e, 0, x, y)
			}
		},
		func(g *guard) func() answer {
			given, list := g.set(s), g.list(rows)
			return func() answer {
				p, e := data.Pick(given, list)
				return told(e, 0, p.X, p.Y)
			}
		},
	}
}

func scaleCalls(m, mean, dev api.Matrix) []call {
	return []call{
		func(g *guard) func() answer {
			given := g.matrix(m)
			return func() answer {
				a, b, e := data.Scale(given)
				return told(e, 0, a, b)
			}
		},
		func(g *guard) func() answer {
			a, b, c := g.matrix(m), g.matrix(mean), g.matrix(dev)
			return func() answer {
				made, at, e := data.Scaled(a, b, c)
				return told(e, at, made)
			}
		},
	}
}

// dealCalls have numbers alone; pairs are told one behind the other.
func dealCalls(n, k, epoch, batch int) []call {
	deal := func(do func() ([]int, int, api.Errno)) call {
		return func(*guard) func() answer {
			return func() answer {
				list, number, e := do()
				return answer{[][]int{list}, []int{int(e), number}}
			}
		}
	}
	return []call{
		deal(func() ([]int, int, api.Errno) { l, e := data.Order(n, k, epoch); return l, 0, e }),
		deal(func() ([]int, int, api.Errno) { l, e := data.Batch(n, k, 3, epoch, batch); return l, 0, e }),
		deal(func() ([]int, int, api.Errno) { c, e := data.Batches(n, k); return nil, c, e }),
		deal(func() ([]int, int, api.Errno) {
			shards, e := data.Shards(n, k)
			var list []int
			for _, s := range shards {
				list = append(list, s[0], s[1])
			}
			return list, len(shards), e
		}),
	}
}

// calls are calls of all kinds: answered ones, and refused ones.
func calls() []call {
	var l []call
	for _, w := range widths {
		s := setOf(5, 2, 3, w)
		l = append(l, setCalls(s, []int{3, 1, 1, 4}, 2)...)
		l = append(l, setCalls(s, []int{0, 1, 2, 3, 4}, 0)...)
		l = append(l, setCalls(s, []int{0, 9}, -1)...)
		l = append(l, setCalls(s, nil, highest)...)
		l = append(l, setCalls(s, make([]int, 5000), 4)...)
		l = append(l, setCalls(setOf(1, 1, 1, w), []int{0}, 0)...)
		l = append(l, setCalls(api.Set{X: with(s.X, 5, infinityOf(w)), Y: s.Y}, []int{0}, 0)...)
		l = append(l, setCalls(api.Set{X: s.X, Y: api.Matrix{}}, []int{0}, 0)...)
		m, mean, dev := numbered(4, 3, w, -5), vals(1, 3, w, 1, 2, 3), vals(1, 3, w, 2, 0, 5)
		l = append(l, scaleCalls(m, mean, dev)...)
		l = append(l, scaleCalls(m, vals(1, 3, w, 0, 0, 0), vals(1, 3, w, 0, 0, 0))...)
		l = append(l, scaleCalls(m, matrix(1, 3, w, 0, 0, 0), matrix(1, 3, w, 1, 1, 1))...)
		l = append(l, scaleCalls(with(m, 7, infinityOf(w)+1), mean, dev)...)
		l = append(l, scaleCalls(numbered(1, 1, w, 4), numbered(1, 1, w, 1), numbered(1, 1, w, 1))...)
		l = append(l, scaleCalls(numbered(2, 64, w, 4), numbered(1, 64, w, 1), numbered(1, 64, w, 1))...)
		l = append(l, scaleCalls(m, dev, m)...)
	}
	for _, c := range [][4]int{{7, 3, 2, 1}, {7, 3, 2, 2}, {7, 3, 2, 3}, {1, 1, 0, 0}, {4096, 16, highest, 255}, {4097, 16, 0, 0}, {0, 1, 0, 0}, {-1, 0, -1, -1}, {64, 256, 1, 0}} {
		l = append(l, dealCalls(c[0], c[1], c[2], c[3])...)
	}
	return l
}

// TestP1909Given: what is handed in is not changed, what stands about it neither; what is done to it later turns no answer.
func TestP1909Given(t *testing.T) {
	for i, c := range calls() {
		var g guard
		do := c(&g)
		was := clones(g.lists)
		got := do()
		if !sameLists(g.lists, was) {
			t.Errorf("%d: what is handed in is changed", i)
		}
		want := got.copied()
		for _, l := range g.lists {
			fill(l)
		}
		if !got.same(want) {
			t.Errorf("%d: an answer hangs on what was handed in: %x, want %x", i, got, want)
		}
		var h guard
		if again := c(&h)(); !again.same(want) {
			t.Errorf("%d: %x, then %x", i, want, again)
		}
	}
}

// TestP1909Apart: no two lists of one answer, or of two, share memory, spare room included; nothing that is answered is kept.
func TestP1909Apart(t *testing.T) {
	for i, c := range calls() {
		var g guard
		do := c(&g)
		was := clones(g.lists)
		one, other := do(), do()
		want := other.copied()
		for j := range one.lists {
			rest := clones(one.lists)
			fill(one.lists[j])
			for k := range rest {
				if k != j && !slices.Equal(one.lists[k], rest[k]) {
					t.Errorf("%d: %d and %d share memory", i, j, k)
				}
			}
		}
		if again := do(); !other.same(want) || !again.same(want) {
			t.Errorf("%d: two answers share memory, or one is kept", i)
		}
		if !sameLists(g.lists, was) {
			t.Errorf("%d: an answer shares memory with what was handed in", i)
		}
	}
}

// TestP1909One: a list that is handed in at several places at once.
func TestP1909One(t *testing.T) {
	for _, w := range widths {
		m := vals(1, 3, w, 1, 2, 5)
		s := api.Set{X: m, Y: m}
		x, y, _ := data.Row(s, 0)
		p, _ := data.Pick(s, []int{0, 0})
		fill(x.Bits)
		fill(p.X.Bits)
		if want := vals(1, 3, w, 1, 2, 5); !same(m, want) || !same(y, want) || !same(p.Y, vals(2, 3, w, 1, 2, 5, 1, 2, 5)) {
			t.Errorf("%x, %x, %x", m, y, p)
		}
		wantScaled(t, m, m, m, vals(1, 3, w, 0, 0, 0), 0, api.OK)
	}
}

// TestP1909Pairs: the pairs of two answers are apart.
func TestP1909Pairs(t *testing.T) {
	one, _ := data.Shards(7, 3)
	other, _ := data.Shards(7, 3)
	for i := range cap(one) {
		one[:cap(one)][i] = [2]int{-1, -1}
	}
	again, _ := data.Shards(7, 3)
	if !slices.Equal(other, dealt(7, 3)) || !slices.Equal(again, dealt(7, 3)) {
		t.Errorf("%v, %v", other, again)
	}
}

// TestP1909Again: the same call tells the same, whatever was called ahead of it or beside it.
func TestP1909Again(t *testing.T) {
	tell := func() []answer {
		var l []answer
		for _, c := range calls() {
			var g guard
			l = append(l, c(&g)())
		}
		return l
	}
	want := tell()
	var group sync.WaitGroup
	for range 8 {
		group.Add(1)
		go func() {
			defer group.Done()
			for range 5 {
				if !slices.EqualFunc(tell(), want, answer.same) {
					t.Error("a call tells something else beside others")
				}
			}
		}()
	}
	group.Wait()
}

// TestP1909Shared: one set and one matrix that many ask at once.
func TestP1909Shared(t *testing.T) {
	var g guard
	var all []func() answer
	for _, c := range calls() {
		all = append(all, c(&g))
	}
	var want []answer
	for _, do := range all {
		want = append(want, do())
	}
	var group sync.WaitGroup
	for range 8 {
		group.Add(1)
		go func() {
			defer group.Done()
			for i, do := range all {
				if !do().same(want[i]) {
					t.Errorf("%d: a call tells something else beside others", i)
				}
			}
		}()
	}
	group.Wait()
}
