package train_test

import (
	"math/rand"
	"reflect"
	"slices"
	"sync"
	"testing"

	"pupil/api"
	"pupil/train"
)

// guard keeps lists that were laid into longer ones, with something ahead of each and room behind it.
type guard struct {
	ints     [][]int
	nodes    [][]api.Node
	inits    [][]api.Init
	matrices [][]api.Matrix
	slots    [][][]api.Matrix
	sums     [][]api.Acc
	grads    [][][]api.Acc
}

// laid lays a list into a longer one, which it keeps.
func laid[T any](kept *[][]T, l []T, edge T) []T {
	full := slices.Concat([]T{edge, edge}, l, []T{edge, edge, edge})
	*kept = append(*kept, full)
	return full[2 : 2+len(l)]
}

func (g *guard) list(l []int) []int { return laid(&g.ints, l, -7) }

func (g *guard) matrix(m api.Matrix) api.Matrix {
	m.Bits = g.list(m.Bits)
	return m
}

func (g *guard) params(l []api.Matrix) []api.Matrix {
	l = laid(&g.matrices, l, api.Matrix{Rows: -8})
	for i := range l {
		l[i] = g.matrix(l[i])
	}
	return l
}

func (g *guard) set(s api.Set) api.Set { return api.Set{X: g.matrix(s.X), Y: g.matrix(s.Y)} }

func (g *guard) plan(p api.Plan) api.Plan {
	p.Tape.Nodes = laid(&g.nodes, p.Tape.Nodes, api.Node{Op: -5})
	for i, n := range p.Tape.Nodes {
		p.Tape.Nodes[i].In, p.Tape.Nodes[i].Bits = g.list(n.In), g.list(n.Bits)
	}
	p.Inits = laid(&g.inits, p.Inits, api.Init{Kind: -6})
	return p
}

func (g *guard) state(x api.State) api.State {
	x.Params = g.params(x.Params)
	x.Slots = laid(&g.slots, x.Slots, []api.Matrix{{Cols: -9}})
	for i, l := range x.Slots {
		x.Slots[i] = g.params(l)
	}
	return x
}

func (g *guard) sum(a api.Acc) api.Acc {
	a.Sum.Mag = g.list(a.Sum.Mag)
	return a
}

func (g *guard) part(x api.Part) api.Part {
	x.Rows, x.Loss = g.list(x.Rows), g.sum(x.Loss)
	x.Grads = laid(&g.grads, x.Grads, []api.Acc{{None: true}})
	for i, l := range x.Grads {
		x.Grads[i] = laid(&g.sums, l, api.Acc{Plus: true})
		for k, a := range x.Grads[i] {
			x.Grads[i][k] = g.sum(a)
		}
	}
	return x
}

// whole tells all that stands in it, in memory of its own.
func (g *guard) whole() guard {
	var w guard
	for _, l := range g.ints {
		w.ints = append(w.ints, slices.Clone(l))
	}
	for _, l := range g.nodes {
		w.nodes = append(w.nodes, clonedPlan(api.Plan{Tape: api.Tape{Nodes: l}}).Tape.Nodes)
	}
	for _, l := range g.inits {
		w.inits = append(w.inits, slices.Clone(l))
	}
	for _, l := range g.matrices {
		w.matrices = append(w.matrices, copies(l))
	}
	for _, l := range g.slots {
		w.slots = append(w.slots, cloned(api.State{Slots: l}).Slots)
	}
	for _, l := range g.sums {
		w.sums = append(w.sums, clonedPart(api.Part{Grads: [][]api.Acc{l}}).Grads[0])
	}
	for _, l := range g.grads {
		w.grads = append(w.grads, clonedPart(api.Part{Grads: l}).Grads)
	}
	return w
}

// spoil writes over all of it.
func (g *guard) spoil() {
	for _, l := range g.ints {
		fill(l, -99)
	}
	for _, l := range g.nodes {
		fill(l, api.Node{Op: 99})
	}
	for _, l := range g.inits {
		fill(l, api.Init{Rows: 99})
	}
	for _, l := range g.matrices {
		fill(l, api.Matrix{Rows: 99})
	}
	for _, l := range g.slots {
		fill(l, nil)
	}
	for _, l := range g.sums {
		fill(l, api.Acc{None: true})
	}
	for _, l := range g.grads {
		fill(l, nil)
	}
}

// fill writes over a list and its spare room.
func fill[T any](l []T, x T) {
	for i := range cap(l) {
		l[:cap(l)][i] = x
	}
}

// answer is what a call tells.
type answer struct {
	state  api.State
	traces []api.Trace
	rows   []int
	loss   int
	outs   []api.Matrix
	where  api.Where
	e      api.Errno
}

func (a answer) same(b answer) bool {
	return sameState(a.state, b.state) && slices.Equal(a.traces, b.traces) && slices.Equal(a.rows, b.rows) &&
		a.loss == b.loss && sameAll(a.outs, b.outs) && a.where == b.where && a.e == b.e
}

func (a answer) copied() answer {
	a.state, a.traces, a.rows, a.outs = cloned(a.state), slices.Clone(a.traces), slices.Clone(a.rows), copies(a.outs)
	return a
}

// fills tells, of each list of an answer, how to write over it and its spare room.
func (a answer) fills() []func() {
	l := []func(){func() { fill(a.traces, api.Trace{Step: -99}) }, func() { fill(a.rows, -99) }}
	matrices := slices.Concat(slices.Concat(a.state.Slots...), a.state.Params, a.outs)
	for _, m := range matrices {
		l = append(l, func() { fill(m.Bits, -99) })
	}
	for _, list := range slices.Concat([][]api.Matrix{a.state.Params, a.outs}, a.state.Slots) {
		l = append(l, func() { fill(list, api.Matrix{Rows: -99}) })
	}
	return append(l, func() { fill(a.state.Slots, []api.Matrix{{Cols: -99}}) })
}

// call lays what it is given into a guard; what it tells then calls with that.
type call func(g *guard) func() answer

// callsOf are all calls with one plan, set, state and part.
func callsOf(a asked, params []api.Matrix, rows []int) []call {
	lay := func(g *guard) asked { return asked{g.plan(a.p), g.set(a.s), g.state(a.x), g.part(a.part)} }
	run := func(steps int) call {
		return func(g *guard) func() answer {
			b := lay(g)
			return func() answer {
				x, traces, where, e := train.Run(b.p, b.s, b.x, steps)
				return answer{state: x, traces: traces, where: where, e: e}
			}
		}
	}
	return []call{
		func(g *guard) func() answer {
			b := lay(g)
			return func() answer { return answer{e: train.Check(b.p, b.s)} }
		},
		func(g *guard) func() answer {
			b := lay(g)
			return func() answer {
				x, e := train.New(b.p, b.s)
				return answer{state: x, e: e}
			}
		},
		func(g *guard) func() answer {
			b := lay(g)
			return func() answer { return answer{loss: train.Sum(b.x), e: train.Is(b.p, b.s, b.x)} }
		},
		func(g *guard) func() answer {
			b := lay(g)
			return func() answer {
				rows, e := train.Rows(b.p, b.s, b.x)
				return answer{rows: rows, e: e}
			}
		},
		func(g *guard) func() answer {
			b := lay(g)
			return func() answer {
				x, trace, where, e := train.Apply(b.p, b.s, b.x, b.part)
				return answer{state: x, traces: []api.Trace{trace}, where: where, e: e}
			}
		},
		func(g *guard) func() answer {
			b := lay(g)
			return func() answer {
				x, trace, where, e := train.Step(b.p, b.s, b.x)
				return answer{state: x, traces: []api.Trace{trace}, where: where, e: e}
			}
		},
		func(g *guard) func() answer {
			b, params, rows := lay(g), g.params(params), g.list(rows)
			return func() answer {
				loss, outs, where, e := train.Eval(b.p, params, b.s, rows)
				return answer{loss: loss, outs: outs, where: where, e: e}
			}
		},
		run(0), run(1), run(5), run(-1),
	}
}

// calls are calls of all kinds: answered ones, stopped ones, and refused ones.
func calls(t *testing.T) []call {
	t.Helper()
	r := rand.New(rand.NewSource(2113))
	var l []call
	for _, w := range widths {
		for _, kind := range kinds {
			p, s := subject(w)
			p.Rule = ruleOf(kind)
			x := behind(t, p, s, 2+kind)
			a := asked{p, s, x, partAt(t, p, s, x)}
			p.Out = []int{6, 12, 0, 3, 2, 13}[kind] // The loss, inputs and parameters among them.
			a.p.Out = p.Out
			l = append(l, callsOf(a, x.Params, []int{0, 2, 5})...)
		}
		a := plainly(t, w)
		for i, h := range hitches(w) {
			if b := a.copied(); i%6 == 0 {
				h.spoil(&b)
				l = append(l, callsOf(b, b.x.Params, []int{1, 2})...)
			}
		}
		q, set := stopping(w), setOf(w, rowKinds(w)...)
		q.Batch = 1
		l = append(l, callsOf(asked{q, set, begun(t, q, set), api.Part{}}, begun(t, q, set).Params, upTo(10))...)
		b, plain := bare(w), api.Set{X: some(r, 3, 2, w), Y: some(r, 3, 2, w)}
		l = append(l, callsOf(asked{b, plain, api.State{}, api.Part{Rows: upTo(3)}}, nil, []int{1})...)
	}
	return append(l, callsOf(asked{}, nil, nil)...)
}

// TestP2113Given: what is handed in is not changed, what stands about it neither; what is done to it later turns no answer.
func TestP2113Given(t *testing.T) {
	told := 0
	for i, c := range calls(t) {
		var g guard
		do := c(&g)
		before := g.whole()
		got := do()
		if !reflect.DeepEqual(g.whole(), before) {
			t.Errorf("%d: what is handed in is changed", i)
		}
		if got.e == api.OK {
			told++
		}
		want := got.copied()
		g.spoil()
		if !got.same(want) {
			t.Errorf("%d: an answer hangs on what was handed in", i)
		}
		var h guard
		if again := c(&h)(); !again.same(want) {
			t.Errorf("%d: %v, then %v", i, want, again)
		}
	}
	if told < 100 {
		t.Errorf("%d are told", told)
	}
}

// TestP2113Apart: no two lists of one answer, or of two, share memory, spare room included; none shares any with what was handed in, and nothing that is answered is kept.
func TestP2113Apart(t *testing.T) {
	for i, c := range calls(t) {
		var g guard
		do := c(&g)
		before := g.whole()
		one, other := do(), do()
		want := other.copied()
		for j := range one.fills() {
			fresh, untouched := do(), do().copied()
			fresh.fills()[j]()
			untouched.fills()[j]() // In memory of its own this turns one list alone.
			if !fresh.same(untouched) {
				t.Errorf("%d: list %d shares memory with another one", i, j)
			}
		}
		for _, f := range one.fills() {
			f()
		}
		if again := do(); !other.same(want) || !again.same(want) {
			t.Errorf("%d: two answers share memory, or one is kept", i)
		}
		if !reflect.DeepEqual(g.whole(), before) {
			t.Errorf("%d: an answer shares memory with what was handed in", i)
		}
	}
}

// TestP2113One: a list that is handed in at several places at once.
func TestP2113One(t *testing.T) {
	for _, w := range widths {
		p := linear(w)
		m := vals(2, 1, w, 1, 2)
		s := api.Set{X: m, Y: m}
		p.Rule = api.Rule{Kind: api.RuleMomentum}
		x := begun(t, p, s)
		x.Params[1], x.Slots[0][0], x.Slots[1] = x.Params[0], x.Params[0], x.Slots[0]
		apart := cloned(x)
		for _, steps := range []int{0, 1, 4} {
			got := ran(train.Run(p, s, x, steps))
			want(t, "one list", got, ran(train.Run(p, s, apart, steps)))
			fill(got.state.Params[0].Bits, -99)
			fill(got.state.Slots[0][0].Bits, -98)
			if b := got.state.Params[1].Bits[0]; b == -99 || b == -98 || got.state.Slots[1][0].Bits[0] == -98 {
				t.Errorf("%v", got)
			}
		}
		if !sameState(x, apart) {
			t.Errorf("%v", x)
		}
	}
}

// TestP2113Again: the same call tells the same, whatever was called ahead of it or beside it.
func TestP2113Again(t *testing.T) {
	var g guard
	var all []func() answer
	for _, c := range calls(t) {
		all = append(all, c(&g))
	}
	var want []answer
	for _, do := range all {
		want = append(want, do())
	}
	var group sync.WaitGroup
	for range 6 {
		group.Add(1)
		go func() {
			defer group.Done()
			for i, do := range all {
				if !do().same(want[i]) {
					t.Errorf("%d: a call tells something else beside others", i)
				}
			}
		}()
	}
	group.Wait()
	for i, do := range all {
		if !do().same(want[i]) {
			t.Errorf("%d: a call tells something else behind others", i)
		}
	}
}

// TestP2113Nothing: zero values everywhere.
func TestP2113Nothing(t *testing.T) {
	p, s := example()
	for _, c := range []struct {
		p api.Plan
		s api.Set
		e api.Errno
	}{{api.Plan{}, api.Set{}, api.ErrWidth}, {p, api.Set{}, api.ErrWidth}, {api.Plan{}, s, api.ErrNode}} {
		wantCheck(t, "nothing", c.p, c.s, c.e)
		wantNoState(t, "nothing", c.p, c.s, c.e)
		wantBlind(t, "nothing", c.p, nil, c.s, nil, api.Where{}, c.e)
	}
	wantIs(t, "no state", p, s, api.State{}, api.ErrState)
	wantRefused(t, "no part", made(train.Apply(p, s, begun(t, p, s), api.Part{})), api.Where{}, api.ErrRow)
}
