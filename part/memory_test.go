package part_test

import (
	"math/rand"
	"reflect"
	"slices"
	"sync"
	"testing"

	"pupil/api"
	"pupil/part"
)

// guard keeps lists that were laid into longer ones, with something ahead of each and room behind it.
type guard struct {
	ints     [][]int
	nodes    [][]api.Node
	inits    [][]api.Init
	matrices [][]api.Matrix
	sums     [][]api.Acc
	grads    [][][]api.Acc
}

// laid lays a list into a longer one, which it keeps.
func laid[T any](kept *[][]T, l []T, edge T) []T {
	full := slices.Concat([]T{edge, edge}, l, []T{edge, edge, edge})
	*kept = append(*kept, full)
	return full[2 : 2+len(l)]
}

func (g *guard) list(l []int) []int { return laid(&g.ints, l, -7) }

func (g *guard) matrix(m api.Matrix) api.Matrix {
	m.Bits = g.list(m.Bits)
	return m
}

func (g *guard) params(l []api.Matrix) []api.Matrix {
	l = laid(&g.matrices, l, api.Matrix{Rows: -8})
	for i := range l {
		l[i] = g.matrix(l[i])
	}
	return l
}

func (g *guard) set(s api.Set) api.Set { return api.Set{X: g.matrix(s.X), Y: g.matrix(s.Y)} }

func (g *guard) plan(p api.Plan) api.Plan {
	p.Tape.Nodes = laid(&g.nodes, p.Tape.Nodes, api.Node{Op: -5})
	for i, n := range p.Tape.Nodes {
		p.Tape.Nodes[i].In, p.Tape.Nodes[i].Bits = g.list(n.In), g.list(n.Bits)
	}
	p.Inits = laid(&g.inits, p.Inits, api.Init{Kind: -6})
	return p
}

func (g *guard) sum(a api.Acc) api.Acc {
	a.Sum.Mag = g.list(a.Sum.Mag)
	return a
}

func (g *guard) part(x api.Part) api.Part {
	x.Rows, x.Loss = g.list(x.Rows), g.sum(x.Loss)
	x.Grads = laid(&g.grads, x.Grads, []api.Acc{{None: true}})
	for i, l := range x.Grads {
		x.Grads[i] = laid(&g.sums, l, api.Acc{Plus: true})
		for k, a := range x.Grads[i] {
			x.Grads[i][k] = g.sum(a)
		}
	}
	return x
}

// whole tells all that stands in it, in memory of its own.
func (g *guard) whole() guard {
	var w guard
	for _, l := range g.ints {
		w.ints = append(w.ints, slices.Clone(l))
	}
	for _, l := range g.nodes {
		c := slices.Clone(l)
		for i := range c {
			c[i].In, c[i].Bits = slices.Clone(c[i].In), slices.Clone(c[i].Bits)
		}
		w.nodes = append(w.nodes, c)
	}
	for _, l := range g.inits {
		w.inits = append(w.inits, slices.Clone(l))
	}
	for _, l := range g.matrices {
		c := slices.Clone(l)
		for i := range c {
			c[i] = copied(c[i])
		}
		w.matrices = append(w.matrices, c)
	}
	w.sums = clonedSums(g.sums)
	for _, l := range g.grads {
		w.grads = append(w.grads, clonedSums(l))
	}
	return w
}

func clonedSums(lists [][]api.Acc) [][]api.Acc {
	var c [][]api.Acc
	for _, l := range lists {
		c = append(c, cloned(api.Part{Grads: [][]api.Acc{l}}).Grads[0])
	}
	return c
}

// spoil writes over all of it.
func (g *guard) spoil() {
	for _, l := range g.ints {
		fill(l, -99)
	}
	for _, l := range g.nodes {
		fill(l, api.Node{Op: 99})
	}
	for _, l := range g.inits {
		fill(l, api.Init{Rows: 99})
	}
	for _, l := range g.matrices {
		fill(l, api.Matrix{Rows: 99})
	}
	for _, l := range g.sums {
		fill(l, api.Acc{None: true})
	}
	for _, l := range g.grads {
		fill(l, nil)
	}
}

// fill writes over a list and its spare room.
func fill[T any](l []T, x T) {
	for i := range cap(l) {
		l[:cap(l)][i] = x
	}
}

// answer is what a call tells.
type answer struct {
	part     api.Part
	loss     int
	matrices []api.Matrix
	where    api.Where
	e        api.Errno
}

func (a answer) same(b answer) bool {
	return samePart(a.part, b.part) && a.loss == b.loss && sameAll(a.matrices, b.matrices) && a.where == b.where && a.e == b.e
}

func (a answer) copied() answer {
	a.part = cloned(a.part)
	a.matrices = slices.Clone(a.matrices)
	for i, m := range a.matrices {
		a.matrices[i] = copied(m)
	}
	return a
}

// fills tells, of each list of an answer, those of digits too, how to write over it and its spare room, the inner ones first.
func (a answer) fills() []func() {
	l := []func(){func() { fill(a.part.Rows, -99) }, func() { fill(a.part.Loss.Sum.Mag, -99) }}
	for _, sums := range a.part.Grads {
		for _, x := range sums {
			l = append(l, func() { fill(x.Sum.Mag, -99) })
		}
	}
	for _, m := range a.matrices {
		l = append(l, func() { fill(m.Bits, -99) })
	}
	return l
}

// outer writes over the lists of lists.
func (a answer) outer() {
	for _, sums := range a.part.Grads {
		fill(sums, api.Acc{Minus: true})
	}
	fill(a.part.Grads, nil)
	fill(a.matrices, api.Matrix{Rows: -99})
}

// call lays what it is given into a guard; what it tells then calls with that.
type call func(g *guard) func() answer

func ofCall(p api.Plan, params []api.Matrix, s api.Set, rows []int) call {
	return func(g *guard) func() answer {
		p, params, s, rows := g.plan(p), g.params(params), g.set(s), g.list(rows)
		return func() answer {
			x, where, e := part.Of(p, params, s, rows)
			return answer{part: x, where: where, e: e}
		}
	}
}

func fitsCall(p api.Plan, s api.Set) call {
	return func(g *guard) func() answer {
		p, s := g.plan(p), g.set(s)
		return func() answer { return answer{e: part.Fits(p, s)} }
	}
}

func joinCall(a, b api.Part) call {
	return func(g *guard) func() answer {
		a, b := g.part(a), g.part(b)
		return func() answer {
			x, e := part.Join(a, b)
			return answer{part: x, e: e}
		}
	}
}

func closeCall(p api.Plan, x api.Part) call {
	return func(g *guard) func() answer {
		p, x := g.plan(p), g.part(x)
		return func() answer {
			loss, grads, where, e := part.Close(p, x)
			return answer{loss: loss, matrices: grads, where: where, e: e}
		}
	}
}

// calls are calls of all kinds: answered ones, stopped ones, and refused ones.
func calls() []call {
	r := rand.New(rand.NewSource(2008))
	var l []call
	for _, w := range widths {
		p, params, s := mixed(w), mixedParams(r, w), mixedSet(r, 12, w)
		for _, rows := range [][]int{{0}, {11}, {0, 1}, {2, 5, 7, 9}, upTo(12), nil, {3, 3}, {12}, upTo(257)} {
			l = append(l, ofCall(p, params, s, rows))
		}
		l = append(l, fitsCall(p, s), ofCall(p, params[1:], s, upTo(3)), ofCall(p, make([]api.Matrix, 4), s, upTo(3)))
		x, _, _ := part.Of(p, params, s, []int{0, 4, 5})
		y, _, _ := part.Of(p, params, s, []int{1, 2, 11})
		z, _ := part.Join(x, y)
		none := api.Part{Rows: []int{6}, Grads: make([][]api.Acc, 4)} // Its sums are all 0.
		for i := range none.Grads {
			none.Grads[i] = make([]api.Acc, len(x.Grads[i]))
		}
		for _, c := range [][2]api.Part{{x, y}, {y, x}, {x, x}, {z, none}, {none, z}, {none, none}, {x, api.Part{}}, {api.Part{}, y}, {x, {Rows: []int{9}}}} {
			l = append(l, joinCall(c[0], c[1]))
		}
		for _, c := range []api.Part{x, y, z, none, {}, {Rows: []int{1}}} {
			l = append(l, closeCall(p, c))
		}
		q, units := stopping(w)
		for i := range kinds(w) {
			l = append(l, ofCall(q, units, rowsOf(w, kinds(w)), []int{0, 1, i}[min(i, 2):]))
		}
		l = append(l, ofCall(q, units, rowsOf(w, kinds(w)), upTo(20)))
		for i, f := range flaws(w) {
			if sk := flawed(w, f); i%7 == 0 {
				l = append(l, fitsCall(sk.plan(), sk.set), ofCall(sk.plan(), sk.matrices(), sk.set, []int{0}))
			}
		}
		for i, h := range hitches(w) {
			if i%11 == 0 {
				p, x := hitched(r, w, h)
				l = append(l, closeCall(p, x), joinCall(x, x))
			}
		}
		sk := rightSketch(w)
		l = append(l, closeCall(sk.plan(), sk.sums(r, 3)), fitsCall(sk.plan(), sk.set), ofCall(sk.plan(), sk.matrices(), sk.set, upTo(4)))
	}
	far := api.Acc{Sum: api.Num{Mag: []int{1}, Exp: api.MaxExp}}
	l = append(l, joinCall(api.Part{Rows: []int{0}, Loss: far}, api.Part{Rows: []int{1}, Loss: far}))
	return l
}

// TestP2008Given: what is handed in is not changed, what stands about it neither; what is done to it later turns no answer.
func TestP2008Given(t *testing.T) {
	told := 0
	for i, c := range calls() {
		var g guard
		do := c(&g)
		before := g.whole()
		got := do()
		if !reflect.DeepEqual(g.whole(), before) {
			t.Errorf("%d: what is handed in is changed", i)
		}
		if got.e == api.OK {
			told++
		} else if !zeroPart(got.part) || got.loss != 0 || len(got.matrices) > 0 {
			t.Errorf("%d: something beside an error: %v", i, got)
		}
		want := got.copied()
		g.spoil()
		if !got.same(want) {
			t.Errorf("%d: an answer hangs on what was handed in", i)
		}
		var h guard
		if again := c(&h)(); !again.same(want) {
			t.Errorf("%d: %v, then %v", i, want, again)
		}
	}
	if told < 30 {
		t.Errorf("%d are told", told)
	}
}

// TestP2008Apart: no two lists of one answer, or of two, share memory, spare room included, those of digits too; none shares any with what was handed in, and nothing that is answered is kept.
func TestP2008Apart(t *testing.T) {
	for i, c := range calls() {
		var g guard
		do := c(&g)
		before := g.whole()
		one, other := do(), do()
		want := other.copied()
		for j := range one.fills() {
			fresh, untouched := do(), do().copied()
			fresh.fills()[j]()
			untouched.fills()[j]() // In memory of its own this turns one list alone.
			if !fresh.same(untouched) {
				t.Errorf("%d: list %d shares memory with another one", i, j)
			}
		}
		for _, f := range one.fills() {
			f()
		}
		one.outer()
		if again := do(); !other.same(want) || !again.same(want) {
			t.Errorf("%d: two answers share memory, or one is kept", i)
		}
		if !reflect.DeepEqual(g.whole(), before) {
			t.Errorf("%d: an answer shares memory with what was handed in", i)
		}
	}
}

// TestP2008Lists: lists of sums within one another share no memory.
func TestP2008Lists(t *testing.T) {
	r := rand.New(rand.NewSource(1))
	for _, w := range widths {
		p, params, s := mixed(w), mixedParams(r, w), mixedSet(r, 4, w)
		x, _, _ := part.Of(p, params, s, []int{0, 1})
		y, _, _ := part.Of(p, params, s, []int{2})
		z, _ := part.Join(x, y)
		_, grads, _, _ := part.Close(p, z)
		for _, l := range [][][]api.Acc{x.Grads, y.Grads, z.Grads} {
			for i := range l {
				was := clonedSums(l)
				fill(l[i], api.Acc{Plus: true})
				for k := range l {
					if k != i && !samePart(api.Part{Grads: l[k : k+1]}, api.Part{Grads: was[k : k+1]}) {
						t.Errorf("lists %d and %d share memory", i, k)
					}
				}
			}
		}
		for i := range grads {
			fill(grads[i].Bits, -99)
			for k := i + 1; k < len(grads); k++ {
				if slices.Contains(grads[k].Bits, -99) {
					t.Errorf("gradients %d and %d share memory", i, k)
				}
			}
		}
	}
}

// TestP2008One: a list that is handed in at several places at once.
func TestP2008One(t *testing.T) {
	for _, w := range widths {
		p, params := linear(w)
		m := vals(3, 1, w, 1, 2, 5)
		s := api.Set{X: m, Y: m}
		params[1] = params[0]
		x, _, e := part.Of(p, params, s, []int{0, 2})
		sum := whole(6, 0).acc()
		if want := (api.Part{Rows: []int{0, 2}, Loss: whole(12, 0).acc(), Grads: [][]api.Acc{{sum}, {sum}}}); e != api.OK || !samePart(x, want) {
			t.Errorf("%v, %v", x, e)
		}
		y := api.Part{Rows: []int{1}, Loss: sum, Grads: [][]api.Acc{{sum}, {sum}}}
		z := api.Part{Rows: []int{3}, Loss: sum, Grads: y.Grads}
		got, e := part.Join(y, z)
		fill(got.Grads[0][0].Sum.Mag, -99)
		fill(got.Loss.Sum.Mag, -99)
		if twice := whole(12, 0).acc(); e != api.OK || !samePart(api.Part{Grads: got.Grads[1:]}, api.Part{Grads: [][]api.Acc{{twice}}}) || !samePart(z, api.Part{Rows: []int{3}, Loss: whole(6, 0).acc(), Grads: [][]api.Acc{{whole(6, 0).acc()}, {whole(6, 0).acc()}}}) {
			t.Errorf("%v, %v, %v", got, z, e)
		}
	}
}

// TestP2008Again: the same call tells the same, whatever was called ahead of it or beside it, of one thing that all ask too.
func TestP2008Again(t *testing.T) {
	var g guard
	var all []func() answer
	for _, c := range calls() {
		all = append(all, c(&g))
	}
	var want []answer
	for _, do := range all {
		want = append(want, do())
	}
	var group sync.WaitGroup
	for range 6 {
		group.Add(1)
		go func() {
			defer group.Done()
			for i, do := range all {
				if !do().same(want[i]) {
					t.Errorf("%d: a call tells something else beside others", i)
				}
			}
		}()
	}
	group.Wait()
	for i, do := range all {
		if !do().same(want[i]) {
			t.Errorf("%d: a call tells something else behind others", i)
		}
	}
}

// TestP2008Ends: ints at their ends, wherever they may stand.
func TestP2008Ends(t *testing.T) {
	for _, n := range ends {
		p, s := example()
		one := []api.Matrix{vals(1, 1, 64, 1)}
		for _, node := range []api.Node{{Op: n}, takes(api.OpNeg, n), input(n, n, n, n), param(1, n, n, n), numbers(api.OpForm, n, n, 0), {Op: api.OpConst, Rows: n, Cols: n, Width: 64, Bits: []int{n}}} {
			q := p
			q.Tape.Nodes = append(slices.Clone(p.Tape.Nodes), node)
			wantFits(t, "a node", q, s, fitsOf(q, s))
			wantNone(t, "a node", q, one, s, []int{0}, fitsOf(q, s))
			wantClose(t, "a node", q, api.Part{Rows: []int{0}, Grads: [][]api.Acc{{{}}}})
		}
		for _, m := range []api.Matrix{{Rows: n, Cols: n, Width: n, Bits: []int{n}}, {Rows: n, Cols: 1, Width: 64, Bits: []int{n}}, {Rows: 1, Cols: n, Width: 64, Bits: []int{n}}, {Rows: 1, Cols: 1, Width: n, Bits: []int{n}}, {Rows: 1, Cols: 1, Width: 32, Bits: []int{n}}, {Rows: 1, Cols: 1, Width: 64, Bits: []int{n}}} {
			wantOf(t, "a parameter", p, []api.Matrix{m}, s, []int{0, 1})
			wantOf(t, "a set's X", p, one, api.Set{X: m, Y: s.Y}, []int{0})
			wantOf(t, "a set's Y", p, one, api.Set{X: s.X, Y: m}, []int{0})
			wantOf(t, "a set", p, one, api.Set{X: m, Y: m}, []int{0})
		}
		q := p
		q.Out, q.Loss, q.Inits, q.Batch, q.Seed = n, n, []api.Init{{Kind: n, Rows: n, Cols: n, Width: n, A: n, B: n}}, n, n
		wantFits(t, "a plan", q, s, api.ErrNode)
		x := api.Part{Rows: []int{n}, Loss: api.Acc{Sum: api.Num{Neg: true, Mag: []int{n}, Exp: n}}, Grads: [][]api.Acc{{{Sum: api.Num{Mag: []int{n, n}, Exp: n}}}}}
		wantNoJoin(t, "a part", x, x, api.ErrArg)
		wantOpen(t, "a part", p, x, api.Where{}, api.ErrArg)
		wantOpen(t, "a plan", q, x, api.Where{}, api.ErrNode)
	}
}
