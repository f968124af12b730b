package cluster_test

import (
	"math/rand"
	"testing"

	"pupil/api"
	"pupil/train"
)

// counted wants rows to be dealt out in shards of so many, one behind the other, to workers.
func counted(t *testing.T, what string, m machine, step int, rows, workers, counts []int) {
	t.Helper()
	var l []workFor
	for i, n := range counts {
		l = append(l, workFor{workers[i], step, rows[:n]})
		rows = rows[n:]
	}
	wantWork(t, what, m, l...)
	if len(rows) > 0 {
		t.Errorf("%s: %v are left", what, rows)
	}
}

// TestP2204Shards: one worker, fewer than rows, as many, more.
func TestP2204Shards(t *testing.T) {
	r := rand.New(rand.NewSource(2204))
	for _, w := range widths {
		p, s := mixed(w), mixedSet(r, 9, w)
		p.Batch = 7
		rows, _ := train.Rows(p, s, behind(t, p, s, 0))
		for workers, counts := range map[int][]int{1: {7}, 2: {4, 3}, 3: {3, 2, 2}, 4: {2, 2, 2, 1}, 5: {2, 2, 1, 1, 1}, 6: {2, 1, 1, 1, 1, 1}, 7: {1, 1, 1, 1, 1, 1, 1}, 8: {1, 1, 1, 1, 1, 1, 1}, 16: {1, 1, 1, 1, 1, 1, 1}} {
			c := made(t, p, s, workers, 2, 1)
			counted(t, "the first step", c, 0, rows, upTo(16), counts)
		}
		// The second batch has two rows.
		x := behind(t, p, s, 1)
		rows, _ = train.Rows(p, s, x)
		for workers, counts := range map[int][]int{1: {2}, 2: {1, 1}, 3: {1, 1}, 16: {1, 1}} {
			counted(t, "the second step", madeFrom(t, p, s, x, workers, 2, 1), 1, rows, upTo(16), counts)
			c := made(t, p, s, workers, 2, 1)
			for c.State().Step == 0 {
				all(t, c.Deliver(0))
			}
			counted(t, "the second step", c, 1, rows, upTo(16), counts)
		}
		// One row alone.
		p.Batch = 1
		counted(t, "one row", made(t, p, s, 4, 1, 1), 0, must(train.Rows(p, s, behind(t, p, s, 0))), upTo(16), []int{1})
		// As many rows as a batch may have.
		p, s = bare(w), api.Set{X: some(r, 300, 1, w), Y: some(r, 300, 1, w)}
		p.Batch = api.MaxBatch
		rows, _ = train.Rows(p, s, behind(t, p, s, 0))
		counted(t, "a great batch", made(t, p, s, 3, 1, 1), 0, rows, upTo(16), []int{86, 85, 85})
	}
}

// must tells rows that there are.
func must(rows []int, _ api.Errno) []int { return rows }

// TestP2204Down: those that are down get nothing, those that came back do, by rising numbers.
func TestP2204Down(t *testing.T) {
	r := rand.New(rand.NewSource(1))
	for _, w := range widths {
		p, s := mixed(w), mixedSet(r, 7, w)
		p.Batch = 7
		rows := upTo(7)
		for _, c := range []struct {
			down, up, counts []int
		}{
			{nil, []int{0, 1, 2, 3}, []int{2, 2, 2, 1}}, {[]int{0}, []int{1, 2, 3}, []int{3, 2, 2}}, {[]int{3}, []int{0, 1, 2}, []int{3, 2, 2}}, {[]int{2, 1}, []int{0, 3}, []int{4, 3}},
			{[]int{3, 0, 1}, []int{2}, []int{7}}, {[]int{0, 1, 2}, []int{3}, []int{7}},
		} {
			// Behind a step.
			m := made(t, p, s, 4, 3, 2)
			for range 7 {
				all(t, m.Deliver(0))
			}
			for _, d := range c.down {
				all(t, m.Crash(d))
			}
			all(t, m.Deliver(0))
			counted(t, "behind a step", m, 1, rows, c.up, c.counts)
			// At a tick.
			dropAll(t, m)
			m.Tick()
			wantWork(t, "too young", m)
			m.Tick()
			counted(t, "at a tick", m, 1, rows, c.up, c.counts)
			// All come back.
			dropAll(t, m)
			for _, d := range c.down {
				all(t, m.Restart(d))
			}
			m.Tick()
			m.Tick()
			counted(t, "back", m, 1, rows, upTo(4), []int{2, 2, 2, 1})
		}
	}
}

// TestP2204None: with no worker up nothing is sent, and no row has a note: once one is up, the next tick deals them, however young the older notes were.
func TestP2204None(t *testing.T) {
	p, s := example()
	c := made(t, p, s, 2, 3, 5)
	all(t, c.Deliver(0), c.Deliver(0), c.Crash(0), c.Crash(1), c.Deliver(0), c.Deliver(0))
	wantSteps(t, "no worker", c, 1)
	wantWork(t, "no worker", c)
	for range 7 {
		c.Tick()
		wantWork(t, "no worker", c)
	}
	all(t, c.Restart(1))
	wantWork(t, "back, without a tick", c)
	c.Tick()
	wantWork(t, "back", c, workFor{1, 1, []int{0, 1, 2}})
	// Notes of the step ahead, which are young, are none of this step's.
	c = made(t, p, s, 2, 3, 100)
	c.Tick()
	all(t, c.Deliver(0), c.Deliver(0), c.Crash(0), c.Crash(1), c.Deliver(0), c.Deliver(0), c.Restart(0))
	c.Tick()
	wantWork(t, "back at once", c, workFor{0, 1, []int{0, 1, 2}})
	// What could not be sent at a tick either has no note behind it.
	c = made(t, p, s, 2, 3, 2)
	all(t, c.Crash(0), c.Crash(1))
	c.Tick()
	c.Tick()
	all(t, c.Deliver(0), c.Deliver(0))
	wantWork(t, "all lost", c)
	all(t, c.Restart(0))
	c.Tick()
	wantWork(t, "back", c, workFor{0, 0, []int{0, 1, 2}})
	c.Tick()
	all(t, c.Drop(0))
	wantWork(t, "too young", c)
	c.Tick()
	wantWork(t, "old enough", c, workFor{0, 0, []int{0, 1, 2}})
}

// TestP2204In: rows that are in are not dealt.
func TestP2204In(t *testing.T) {
	r := rand.New(rand.NewSource(2))
	for _, w := range widths {
		p, s := mixed(w), mixedSet(r, 5, w)
		shards := [][]int{{0, 1}, {2, 3}, {4}}
		for in := range 7 { // Which of the three shards are in, but all.
			c := made(t, p, s, 3, 1, 1)
			var left []int
			for i, rows := range shards {
				if in>>i&1 == 0 {
					left = append(left, rows...)
					all(t, c.Drop(0))
					continue
				}
				all(t, c.Deliver(0), c.Deliver(len(c.Mail())-1))
			}
			wantWork(t, "all delivered", c)
			all(t, c.Crash(0), c.Crash(2))
			c.Tick()
			wantWork(t, "what is left", c, workFor{1, 0, left})
			deliverAll(t, c)
			wantDone(t, "all in", c, api.Where{}, api.OK)
		}
	}
}

// TestP2204Notes: a note is made anew whenever a row is sent, at the tick that the clock shows; rows that are dealt together with others at one tick are dealt together again.
func TestP2204Notes(t *testing.T) {
	p, s := example()
	c := made(t, p, s, 2, 9, 3)
	rounds := 0
	for tick := 1; tick <= 30; tick++ {
		c.Tick()
		if tick%3 == 0 {
			counted(t, "dealt anew", last(c, 2), 0, upTo(3), upTo(2), []int{2, 1})
			rounds++
		}
		if n := len(c.Mail()); n != 2+2*rounds {
			t.Fatalf("tick %d: %d messages", tick, n)
		}
	}
	// The second step's notes begin at the tick at which it does.
	dropAll(t, c)
	for range 2 {
		c.Tick()
	}
	c.Tick()
	all(t, c.Deliver(0), c.Deliver(0), c.Deliver(0))
	c.Tick()
	all(t, c.Deliver(0))
	wantSteps(t, "a step", c, 1)
	counted(t, "the second step", c, 1, upTo(3), upTo(2), []int{2, 1})
	for range 2 {
		c.Tick()
		counted(t, "too young", c, 1, upTo(3), upTo(2), []int{2, 1})
	}
	c.Tick()
	counted(t, "old enough", last(c, 2), 1, upTo(3), upTo(2), []int{2, 1})
}

// tail is a machine of whose mail the last messages alone are seen.
type tail struct {
	machine
	mail []api.Mail
}

func (x tail) Mail() []api.Mail { return x.mail }

func last(m machine, n int) machine {
	l := m.Mail()
	return tail{m, l[max(0, len(l)-n):]}
}

// TestP2203Steps: behind each step the next one's rows are dealt, with the step's number and parameters, until the steps are made.
func TestP2203Steps(t *testing.T) {
	r := rand.New(rand.NewSource(2203))
	for _, w := range widths {
		p, s := mixed(w), mixedSet(r, 12, w)
		for _, steps := range []int{1, 2, 5} {
			c := made(t, p, s, 2, steps, 1)
			for step := range steps {
				wantSteps(t, "on the way", c, step)
				x := behind(t, p, s, step)
				for _, m := range c.Mail() {
					if m.Kind != api.MailWork || m.Step != step || !sameAll(m.Params, x.Params) {
						t.Errorf("step %d: %v", step, m)
					}
				}
				for c.State().Step == step {
					all(t, c.Deliver(0))
				}
			}
			wantDone(t, "the end", c, api.Where{}, api.OK)
			if l := c.Mail(); len(l) != 0 || len(c.Traces()) != steps {
				t.Errorf("%v, %v", l, c.Traces())
			}
		}
	}
}
