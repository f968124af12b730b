package cluster_test

import (
	"math/rand"
	"slices"
	"sync"
	"testing"

	"pupil/api"
	"pupil/cluster"
	"pupil/train"
)

// The calls of a script.
const (
	callDeliver = iota
	callDrop
	callDouble
	callMove
	callCrash
	callRestart
	callTick
)

// call is a call of a script, with its numbers.
type call struct{ op, a, b int }

func (x call) do(m machine) api.Errno {
	switch x.op {
	case callDeliver:
		return m.Deliver(x.a)
	case callDrop:
		return m.Drop(x.a)
	case callDouble:
		return m.Double(x.a)
	case callMove:
		return m.Move(x.a, x.b)
	case callCrash:
		return m.Crash(x.a)
	case callRestart:
		return m.Restart(x.a)
	}
	m.Tick()
	return api.OK
}

// likely are calls as often as scripts have them.
var likely = slices.Concat(slices.Repeat([]int{callDeliver}, 40), slices.Repeat([]int{callTick}, 12), slices.Repeat([]int{callRestart}, 10),
	slices.Repeat([]int{callMove}, 10), slices.Repeat([]int{callDouble, callCrash, callDrop}, 6))

// anyCall makes one of them, of so many messages and workers; its numbers are such as there are, but for some.
func anyCall(r *rand.Rand, mail, workers int) call {
	number := func(n int) int {
		if n == 0 || r.Intn(20) == 0 {
			return []int{-1, n, n + 1, lowest, highest}[r.Intn(5)]
		}
		return r.Intn(n)
	}
	x := call{op: likely[r.Intn(len(likely))]}
	if x.op == callCrash || x.op == callRestart {
		x.a = number(workers)
	} else if x.op != callTick {
		x.a, x.b = number(mail), number(mail)
	}
	return x
}

// trainings are requests of all kinds: some end, some are refused, by rows, by the rate, by a parameter.
func trainings(t *testing.T, r *rand.Rand, w int) []request {
	t.Helper()
	var l []request
	of := func(p api.Plan, s api.Set, from, steps int) {
		l = append(l, request{p: p, s: s, x: behind(t, p, s, from), steps: steps})
	}
	p, s := mixed(w), mixedSet(r, 11, w)
	of(p, s, 0, 4)
	of(p, s, 3, 7)
	p.Batch = 11
	of(p, s, 0, 2)
	q, k := scalar(w, api.OpSqrt), kinds(w)
	q.Batch, q.Schedule.Base = 4, bitsOf(0x1p-10)
	of(q, setOf(w, k[0], k[1], k[0], k[1], k[0], k[1], k[0], k[1]), 1, 4)
	of(q, setOf(w, k[0], k[1], k[2], k[1], k[3], k[4]), 0, 4)
	of(q, setOf(w, k[0], k[5], k[0], k[4]), 0, 2)
	q.Batch = 2
	of(q, setOf(w, k[0], k[1], k[0], k[1], k[0], k[1], k[4], k[0]), 0, 9)
	q = scalar(w, api.OpMul)
	q.Schedule = api.Schedule{Kind: api.RateSteps, Base: bitsOf(1), Factor: bitsOf(0x1p300), Every: 1}
	one := vals(5, 1, w, 1, 1, 1, 1, 1)
	of(q, api.Set{X: one, Y: one}, 0, 9)
	of(bare(w), api.Set{X: one, Y: one}, 0, 3)
	return l
}

// pair is a cluster and the chapter's words, of one request.
type pair struct {
	c *cluster.Cluster
	m *plain
}

func pairOf(t *testing.T, q request) pair {
	t.Helper()
	m, e := plainOf(q.p, q.s, &q.x, q.workers, q.steps, q.patience)
	if e != api.OK {
		t.Fatal(e)
	}
	return pair{madeFrom(t, q.p, q.s, q.x, q.workers, q.steps, q.patience), m}
}

// do does a call on both, which must tell the same.
func (x pair) do(t *testing.T, k call) {
	t.Helper()
	e, f := k.do(x.c), k.do(x.m)
	if e != f {
		t.Fatalf("%v: %v, want %v", k, e, f)
	}
	if got, want := look(x.c), look(x.m); !got.same(want) {
		t.Fatalf("%v: %v, want %v", k, got, want)
	}
}

// TestP2209Scripts: scripts of all calls, in many orders: what is told is what the words say, and what one machine makes.
func TestP2209Scripts(t *testing.T) {
	r := rand.New(rand.NewSource(2209))
	ended, refused, under := 0, 0, 0
	for _, w := range widths {
		for _, q := range trainings(t, r, w) {
			one := oneMachine(t, q.p, q.s, q.x, q.steps)
			for range 12 {
				q.workers, q.patience = 1+r.Intn(6), 1+r.Intn(4)
				x := pairOf(t, q)
				for range 40 + r.Intn(160) {
					x.do(t, anyCall(r, len(x.m.mail), q.workers))
					wantRun(t, x.c, one)
				}
				switch done, _, e := x.c.Done(); {
				case e != api.OK:
					refused++
				case done:
					ended++
				default:
					under++
				}
			}
		}
	}
	if ended < 30 || refused < 30 || under < 10 {
		t.Errorf("%d ended, %d refused, %d under way", ended, refused, under)
	}
}

// deliveries tells all orders in which the mail of a cluster can be delivered to its end.
func deliveries(t *testing.T, make func() machine, so []int) [][]int {
	m := make()
	for _, i := range so {
		all(t, m.Deliver(i))
	}
	n := len(m.Mail())
	if n == 0 {
		return [][]int{so}
	}
	var l [][]int
	for i := range n {
		l = append(l, deliveries(t, make, append(slices.Clone(so), i))...)
	}
	return l
}

// TestP2209Orders: every order in which the mail can be delivered, where nothing is lost, and where a message is doubled: all are one.
func TestP2209Orders(t *testing.T) {
	for _, w := range widths {
		k := kinds(w)
		p, q := scalar(w, api.OpMul), scalar(w, api.OpSqrt)
		sound := api.Set{X: vals(3, 1, w, 1, 2, 3), Y: vals(3, 1, w, 3, 1, 0.1)}
		for _, c := range []struct {
			p              api.Plan
			s              api.Set
			workers, steps int
			doubled        []int
			least          int
		}{{p, sound, 3, 1, nil, 90}, {p, sound, 2, 2, nil, 36}, {p, sound, 2, 1, []int{1}, 90}, {q, setOf(w, k[4], k[2], k[3]), 3, 1, nil, 90}, {q, setOf(w, k[0], k[2], k[5]), 2, 1, []int{0}, 90}} {
			one := oneMachine(t, c.p, c.s, behind(t, c.p, c.s, 0), c.steps)
			begin := func() machine {
				m := made(t, c.p, c.s, c.workers, c.steps, 1)
				for _, i := range c.doubled {
					all(t, m.Double(i))
				}
				return m
			}
			l := deliveries(t, begin, nil)
			for _, so := range l {
				m := begin()
				for _, i := range so {
					all(t, m.Deliver(i))
					wantRun(t, m, one)
				}
				if done, _, _ := m.Done(); !done {
					t.Errorf("%v: not done", so)
				}
			}
			if len(l) < c.least {
				t.Errorf("%d orders", len(l))
			}
		}
	}
}

// TestP2209Workers: any number of workers makes what one machine makes.
func TestP2209Workers(t *testing.T) {
	r := rand.New(rand.NewSource(1))
	for _, w := range widths {
		for _, q := range trainings(t, r, w) {
			one := oneMachine(t, q.p, q.s, q.x, q.steps)
			for workers := 1; workers <= api.MaxWorkers; workers++ {
				c := madeFrom(t, q.p, q.s, q.x, workers, q.steps, 5)
				deliverAll(t, c)
				wantRun(t, c, one)
				wantDone(t, "all delivered", c, one.where, one.e)
			}
		}
	}
}

// TestP2209Exact: losses and gradients whose sums no floats would tell.
func TestP2209Exact(t *testing.T) {
	r := rand.New(rand.NewSource(2))
	for _, w := range widths {
		great := []float64{0, 0x1p127, 0x1p1023}[w/32]
		p := scalar(w, api.OpMul) // Turned: the loss is x w + y, and w begins as 0.
		p.Tape.Nodes = append(p.Tape.Nodes[:4], takes(api.OpAdd, 3, 1))
		p.Inits[0], p.Loss, p.Batch, p.Schedule.Base = api.Init{Rows: 1, Cols: 1, Width: w}, 4, 8, bitsOf(0x1p-30)
		s := api.Set{X: vals(8, 1, w, great, great, 1, 1, great, -great, -great, -great), Y: vals(8, 1, w, 1, -great, great, 0x1p-20, great, -great, 1, 3)}
		one := oneMachine(t, p, s, behind(t, p, s, 0), 2)
		if len(one.traces) == 0 || one.traces[0].Loss != pattern((5+0x1p-20)/8, w) {
			t.Fatalf("%x", one.traces)
		}
		for range 20 {
			c := made(t, p, s, 1+r.Intn(8), 2, 1)
			for n := len(c.Mail()); n > 0; n = len(c.Mail()) {
				all(t, c.Deliver(r.Intn(n)))
			}
			wantRun(t, c, one)
			wantDone(t, "all delivered", c, one.where, one.e)
		}
	}
}

// progress tells how many steps there were, and how many rows of the next one are in.
func (m *plain) progress() (steps, in int) {
	rows, _ := train.Rows(m.p, m.s, m.state)
	return m.state.Step, len(rows) - len(m.open())
}

// TestP2210Rounds: behind whatever script, rounds of patience ticks and a delivery of all mail come to the end, each bringing a row in, at least; what happens on the way is what the words say.
func TestP2210Rounds(t *testing.T) {
	r := rand.New(rand.NewSource(2210))
	most := 0
	for _, w := range widths {
		for _, q := range trainings(t, r, w) {
			one := oneMachine(t, q.p, q.s, q.x, q.steps)
			for range 10 {
				q.workers, q.patience = 1+r.Intn(6), 1+r.Intn(4)
				x := pairOf(t, q)
				for range r.Intn(60) {
					x.do(t, anyCall(r, len(x.m.mail), q.workers))
				}
				rounds := 0
				for !x.m.done() {
					steps, in := x.m.progress()
					// Any may go down and come back ahead of the ticks. Between them one to whom rows were dealt would be missing at the delivery, and their note too young at the last tick.
					for range r.Intn(2 * q.workers) {
						x.do(t, call{op: callCrash + r.Intn(2), a: r.Intn(q.workers)})
					}
					if !slices.Contains(x.m.up, true) {
						x.do(t, call{op: callRestart, a: r.Intn(q.workers)})
					}
					for range q.patience {
						x.do(t, call{op: callTick})
					}
					for n := len(x.m.mail); n > 0; n = len(x.m.mail) {
						x.do(t, call{op: callDeliver, a: r.Intn(n)})
					}
					if later, more := x.m.progress(); !x.m.done() && later == steps && more <= in {
						t.Fatalf("a round has brought no row in: %d, %d", later, more)
					}
					rounds++
				}
				wantRun(t, x.c, one)
				wantDone(t, "the end", x.c, one.where, one.e)
				most = max(most, rounds)
			}
		}
	}
	if most < 2 {
		t.Errorf("%d rounds at the most", most)
	}
}

// TestP2210Two: one round need not do: an elder part brings a row in ahead of the part of all, which is let go whole.
func TestP2210Two(t *testing.T) {
	p, s := example()
	c := made(t, p, s, 3, 1, 1)
	all(t, c.Drop(1), c.Drop(1), c.Crash(1), c.Crash(2))
	c.Tick()
	wantWork(t, "an elder one and all", c, workFor{0, 0, []int{0}}, workFor{0, 0, upTo(3)})
	deliverAll(t, c)
	wantSteps(t, "one round", c, 0)
	c.Tick()
	wantWork(t, "what is left", c, workFor{0, 0, []int{1, 2}})
	deliverAll(t, c)
	wantDone(t, "two rounds", c, api.Where{}, api.OK)
	wantRun(t, c, oneMachine(t, p, s, behind(t, p, s, 0), 1))
}

// TestP2210Patience: a round of fewer ticks than patience brings nothing, where all is lost.
func TestP2210Patience(t *testing.T) {
	p, s := example()
	c := made(t, p, s, 2, 1, 4)
	dropAll(t, c)
	for range 3 {
		c.Tick()
	}
	deliverAll(t, c)
	wantSteps(t, "too few ticks", c, 0)
	c.Tick()
	deliverAll(t, c)
	wantDone(t, "a round", c, api.Where{}, api.OK)
}

// script is a row of calls that was made by one cluster's mail.
func script(t *testing.T, r *rand.Rand, q request, calls int) []call {
	t.Helper()
	c := madeFrom(t, q.p, q.s, q.x, q.workers, q.steps, q.patience)
	var l []call
	for range calls {
		x := anyCall(r, len(c.Mail()), q.workers)
		x.do(c)
		l = append(l, x)
	}
	return l
}

// play plays a script, and tells all that is told on the way.
func play(c machine, l []call) ([]api.Errno, []seen) {
	var errors []api.Errno
	var told []seen
	for _, x := range l {
		errors, told = append(errors, x.do(c)), append(told, look(c))
	}
	return errors, told
}

// TestP2211Again: the same calls tell the same again, whatever other clusters are told ahead of them or beside them.
func TestP2211Again(t *testing.T) {
	r := rand.New(rand.NewSource(3))
	var group sync.WaitGroup
	for _, w := range widths {
		for _, q := range trainings(t, r, w) {
			q.workers, q.patience = 3, 2
			l := script(t, r, q, 80)
			errors, want := play(madeFrom(t, q.p, q.s, q.x, 3, q.steps, 2), l)
			for range 3 {
				c := madeFrom(t, q.p, q.s, q.x, 3, q.steps, 2)
				group.Go(func() {
					again, got := play(c, l)
					if !slices.Equal(again, errors) || !slices.EqualFunc(got, want, seen.same) {
						t.Errorf("%v tells something else again", l)
					}
				})
			}
		}
	}
	group.Wait()
}
