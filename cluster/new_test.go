package cluster_test

import (
	"math/rand"
	"slices"
	"testing"

	"pupil/apart"
	"pupil/api"
	"pupil/cluster"
	"pupil/train"
)

// request is what New and From are asked with.
type request struct {
	p                        api.Plan
	s                        api.Set
	x                        api.State
	workers, steps, patience int
}

// flaw is something for which there is no cluster: which of the looks finds it, and what it tells.
type flaw struct {
	name  string
	look  int
	spoil func(q *request)
	e     api.Errno
}

// The looks, in their order: what can't be, what is too much, train.New's, train.Is'.
const (
	lookArg = iota
	lookLong
	lookPlan
	lookState
)

// right is a request that is not refused, of four parameters of both widths, at a state behind some steps.
func right(t *testing.T, width int) request {
	t.Helper()
	p, s := mixed(width), mixedSet(rand.New(rand.NewSource(22)), 7, width)
	return request{p, s, behind(t, p, s, 3), 3, 5, 2}
}

// numberFlaws are numbers that can't be, and such as are too great.
func numberFlaws() []flaw {
	var l []flaw
	for _, n := range []int{0, -1, -2, lowest} {
		l = append(l, flaw{"too few workers", lookArg, func(q *request) { q.workers = n }, api.ErrArg},
			flaw{"too little patience", lookArg, func(q *request) { q.patience = n }, api.ErrArg})
	}
	for _, n := range []int{-1, -2, lowest} {
		l = append(l, flaw{"too few steps", lookArg, func(q *request) { q.steps = n }, api.ErrArg})
	}
	for _, n := range []int{api.MaxWorkers + 1, api.MaxWorkers + 2, 1 << 32, highest} {
		l = append(l, flaw{"too many workers", lookLong, func(q *request) { q.workers = n }, api.ErrLong})
	}
	for _, n := range []int{api.MaxList + 1, api.MaxList + 2, 1 << 32, highest} {
		l = append(l, flaw{"too many steps", lookLong, func(q *request) { q.steps = n }, api.ErrLong},
			flaw{"too much patience", lookLong, func(q *request) { q.patience = n }, api.ErrLong})
	}
	return l
}

// planFlaws are those that train.New finds, of each error that it has.
func planFlaws(width int) []flaw {
	inf := infinityOf(width)
	var l []flaw
	of := func(name string, e api.Errno, spoil func(q *request)) {
		l = append(l, flaw{name, lookPlan, spoil, e})
	}
	of("no width of X", api.ErrWidth, func(q *request) { q.s.X.Width = 16 })
	of("too few Y", api.ErrShape, func(q *request) { q.s.Y.Bits = q.s.Y.Bits[1:] })
	of("no set", api.ErrWidth, func(q *request) { q.s = api.Set{} })
	of("an infinite X", api.ErrInf, func(q *request) { q.s.X.Bits[3] = inf })
	of("a Y that is no number", api.ErrNaN, func(q *request) { q.s.Y.Bits[3] = inf + 1 })
	of("no plan", api.ErrNode, func(q *request) { q.p = api.Plan{} })
	of("no operation", api.ErrOp, func(q *request) { q.p.Tape.Nodes[6].Op = 99 })
	of("no node ahead", api.ErrNode, func(q *request) { q.p.Tape.Nodes[5].In[1] = 5 })
	of("no node Out", api.ErrNode, func(q *request) { q.p.Out = -1 })
	of("no node Loss", api.ErrNode, func(q *request) { q.p.Loss = 13 })
	of("a loss of two columns", api.ErrShape, func(q *request) { q.p.Loss = 6 })
	of("three inputs", api.ErrInput, func(q *request) {
		q.p.Tape.Nodes = append(q.p.Tape.Nodes, leaf(api.OpInput, 2, 1, 1, 64))
	})
	of("columns exchanged", api.ErrShape, func(q *request) { q.s.X, q.s.Y = q.s.Y, q.s.X })
	of("too few Inits", api.ErrParam, func(q *request) { q.p.Inits = q.p.Inits[:2] })
	of("an Init of another width", api.ErrWidth, func(q *request) { q.p.Inits[2].Width = width })
	of("an Init that is none", api.ErrRule, func(q *request) { q.p.Inits[1].Kind = 6 })
	of("an Init of no number", api.ErrNaN, func(q *request) { q.p.Inits[2].A = api.NaN })
	of("an Init of an infinite one", api.ErrInf, func(q *request) { q.p.Inits[2].A = api.Inf })
	of("an Init with a number that is not used", api.ErrArg, func(q *request) { q.p.Inits[0].A = 1 })
	of("no rule", api.ErrRule, func(q *request) { q.p.Rule.Kind = 6 })
	of("a rule without eps", api.ErrRule, func(q *request) { q.p.Rule.Eps = 0 })
	of("no schedule", api.ErrRule, func(q *request) { q.p.Schedule.Kind = -1 })
	of("no batch", api.ErrArg, func(q *request) { q.p.Batch = 0 })
	of("too great a batch", api.ErrArg, func(q *request) { q.p.Batch = api.MaxBatch + 1 })
	return l
}

// stateFlaws are states that are none of the plan and set.
func stateFlaws(width int) []flaw {
	var l []flaw
	of := func(name string, spoil func(x *api.State)) {
		l = append(l, flaw{name, lookState, func(q *request) { spoil(&q.x) }, api.ErrState})
	}
	of("a step below 0", func(x *api.State) { x.Step, x.Epoch, x.Batch = -1, -1, 1 })
	of("another step", func(x *api.State) { x.Step++ })
	of("another epoch", func(x *api.State) { x.Epoch-- })
	of("another batch", func(x *api.State) { x.Batch++ })
	of("a step too many", func(x *api.State) {
		x.Step, x.Epoch, x.Batch = api.MaxStep+1, (api.MaxStep+1)/2, (api.MaxStep+1)%2
	})
	of("no parameters", func(x *api.State) { x.Params = nil })
	of("a parameter less", func(x *api.State) { x.Params = x.Params[:2] })
	of("a parameter that is not in form", func(x *api.State) { x.Params[1].Rows = 2 })
	of("an infinite parameter", func(x *api.State) { x.Params[0].Bits[5] = infinityOf(width) })
	of("a parameter of the other width", func(x *api.State) { x.Params[2] = vals(1, 1, width, 1) })
	of("no slots", func(x *api.State) { x.Slots = nil })
	of("a slot less", func(x *api.State) { x.Slots[0] = x.Slots[0][:2] })
	of("an infinite slot", func(x *api.State) { x.Slots[2][0].Bits[0] = infinityOf(96 - width) })
	of("an infinite loss", func(x *api.State) { x.Loss = infinityOf(96 - width) })
	of("a rate below 0", func(x *api.State) { x.Rate = bitsOf(-1) })
	of("nothing at all", func(x *api.State) { *x = api.State{} })
	for _, n := range ends {
		of("ints at their ends", func(x *api.State) { x.Step, x.Epoch, x.Batch, x.Loss, x.Rate = n, n, n, n, n })
	}
	return l
}

func flaws(width int) []flaw {
	return slices.Concat(numberFlaws(), planFlaws(width), stateFlaws(width))
}

// spoilt lays flaws into a request, in memory of its own.
func spoilt(q request, l ...flaw) request {
	q.p, q.s, q.x = apart.Plan(q.p), apart.Set(q.s), apart.State(q.x)
	for _, f := range l {
		f.spoil(&q)
	}
	return q
}

// wantNone wants New and From to refuse. What is wrong with a state is From's alone.
func wantNone(t *testing.T, what string, q request, look int, e api.Errno) {
	t.Helper()
	if c, f := cluster.From(q.p, q.s, q.x, q.workers, q.steps, q.patience); c != nil || f != e {
		t.Errorf("%s: From: %v, %v, want %v", what, c, f, e)
	}
	if look == lookState {
		e = api.OK
	}
	if c, f := cluster.New(q.p, q.s, q.workers, q.steps, q.patience); (c == nil) != (e != api.OK) || f != e {
		t.Errorf("%s: New: %v, %v, want %v", what, c, f, e)
	}
	_, f := plainOf(q.p, q.s, nil, q.workers, q.steps, q.patience)
	if f != e {
		t.Errorf("%s: the words say %v, want %v", what, f, e)
	}
	if look == lookPlan {
		if _, f := train.New(q.p, q.s); f != e {
			t.Errorf("%s: train.New: %v, want %v", what, f, e)
		}
	}
}

// TestP2201Alone: each error by itself.
func TestP2201Alone(t *testing.T) {
	for _, w := range widths {
		q := right(t, w)
		for _, f := range flaws(w) {
			wantNone(t, f.name, spoilt(q, f), f.look, f.e)
		}
	}
}

// TestP2201Order: of two of them the one that is looked for first is told.
func TestP2201Order(t *testing.T) {
	for _, w := range widths {
		q := right(t, w)
		for _, f := range flaws(w) {
			for _, g := range flaws(w) {
				if f.look < g.look {
					wantNone(t, f.name+", "+g.name, spoilt(q, g, f), f.look, f.e)
				}
			}
		}
	}
}

// TestP2201New: a cluster at its beginning, and the greatest numbers that it may have.
func TestP2201New(t *testing.T) {
	for _, w := range widths {
		q := right(t, w)
		first, _ := train.New(q.p, q.s)
		for _, n := range [][3]int{{1, 1, 1}, {2, 7, 3}, {api.MaxWorkers, 1, 1}, {1, api.MaxList, 1}, {1, 1, api.MaxList}, {api.MaxWorkers, api.MaxList, api.MaxList}} {
			c := made(t, q.p, q.s, n[0], n[1], n[2])
			got := look(c)
			if !slices.Equal(got.up, slices.Repeat([]bool{true}, n[0])) || !sameState(got.state, first) {
				t.Errorf("%v: %v", n, got)
			}
			wantSteps(t, "at the beginning", c, 0)
			if len(got.mail) != min(n[0], 5) {
				t.Errorf("%v: %v", n, got.mail)
			}
		}
	}
}

// TestP2201From: a cluster at a state is that of New but for the state, its mail and its end.
func TestP2201From(t *testing.T) {
	for _, w := range widths {
		q := right(t, w)
		for _, from := range []int{0, 1, 3, 4} {
			x := behind(t, q.p, q.s, from)
			c := madeFrom(t, q.p, q.s, x, 2, 5, 1)
			rows, _ := train.Rows(q.p, q.s, x)
			half := (len(rows) + 1) / 2
			wantWork(t, "From", c, workFor{0, from, rows[:half]}, workFor{1, from, rows[half:]})
			got := look(c)
			if !sameState(got.state, x) || len(got.traces) != 0 || got.done || !slices.Equal(got.up, []bool{true, true}) {
				t.Errorf("%v", got)
			}
			for _, m := range got.mail {
				if !sameAll(m.Params, x.Params) {
					t.Errorf("%v", m)
				}
			}
		}
		// A state that no training comes to is one all the same.
		x := behind(t, q.p, q.s, 2)
		x.Params[0].Bits[0], x.Rate, x.Loss = pattern(-77, w), bitsOf(9), 0
		if c := madeFrom(t, q.p, q.s, x, 2, 5, 1); !sameState(c.State(), x) {
			t.Errorf("%v", c.State())
		}
	}
}

// TestP2201Ended: without a step to make a cluster is done from the beginning, and stays so.
func TestP2201Ended(t *testing.T) {
	for _, w := range widths {
		q := right(t, w)
		last := behind(t, q.p, q.s, 0)
		last.Step, last.Epoch, last.Batch = api.MaxStep, api.MaxStep/2, api.MaxStep%2
		clusters := []*cluster.Cluster{
			made(t, q.p, q.s, 3, 0, 1), madeFrom(t, q.p, q.s, q.x, 3, 0, 1), madeFrom(t, q.p, q.s, q.x, 3, 2, 1), madeFrom(t, q.p, q.s, q.x, 3, 3, 1),
			madeFrom(t, q.p, q.s, last, 3, api.MaxList, 1),
		}
		first := behind(t, q.p, q.s, 0)
		for i, x := range []api.State{first, q.x, q.x, q.x, last} {
			c := clusters[i]
			for range 3 {
				wantDone(t, "no steps", c, api.Where{}, api.OK)
				if got := look(c); len(got.mail) != 0 || len(got.traces) != 0 || !sameState(got.state, x) {
					t.Errorf("%d: %v", i, got)
				}
				c.Tick()
			}
		}
		wantSteps(t, "a step is left", made(t, q.p, q.s, 3, 1, 1), 0)
		if done, _, _ := madeFrom(t, q.p, q.s, q.x, 3, 4, 1).Done(); done {
			t.Error("a step is left")
		}
	}
}

// TestP2201Nothing: no cluster, and one that was not made, answer without mail, workers, steps.
func TestP2201Nothing(t *testing.T) {
	var none *cluster.Cluster
	for _, c := range []*cluster.Cluster{none, {}, new(cluster.Cluster)} {
		for _, n := range append([]int{0, 1}, ends...) {
			for i, e := range []api.Errno{c.Deliver(n), c.Drop(n), c.Double(n), c.Move(n, n), c.Move(0, n), c.Move(n, 0)} {
				if e != api.ErrMail {
					t.Errorf("%d: %v", i, e)
				}
			}
			if e, f := c.Crash(n), c.Restart(n); e != api.ErrWorker || f != api.ErrWorker {
				t.Errorf("%v, %v", e, f)
			}
			c.Tick()
		}
		if !look(c).same(seen{done: true}) {
			t.Errorf("%v", look(c))
		}
	}
}
