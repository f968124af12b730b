package cluster_test

import (
	"math"
	"math/rand"
	"slices"
	"testing"

	"pupil/api"
	"pupil/part"
	"pupil/train"
)

// wantStill wants a call to change nothing, and to tell an error.
func wantStill(t *testing.T, what string, m machine, e api.Errno, do func() api.Errno) {
	t.Helper()
	before := look(m)
	if f := do(); f != e {
		t.Errorf("%s: %v, want %v", what, f, e)
	}
	if after := look(m); !after.same(before) {
		t.Errorf("%s: %v, then %v", what, before, after)
	}
}

// wantLetGo wants a message to be taken out, and nothing else to change.
func wantLetGo(t *testing.T, what string, m machine, i int) {
	t.Helper()
	before := look(m)
	all(t, m.Deliver(i))
	before.mail = slices.Delete(before.mail, i, i+1)
	if after := look(m); !after.same(before) {
		t.Errorf("%s: %v, want %v", what, after, before)
	}
}

// TestP2205Number: a number that no message has.
func TestP2205Number(t *testing.T) {
	p, s := example()
	c := made(t, p, s, 2, 1, 1)
	for _, n := range append([]int{-1, -2, 2, 3}, ends...) {
		wantStill(t, "no message", c, api.ErrMail, func() api.Errno { return c.Deliver(n) })
	}
	dropAll(t, c)
	for _, n := range append([]int{-1, 0, 1}, ends...) {
		wantStill(t, "no mail", c, api.ErrMail, func() api.Errno { return c.Deliver(n) })
	}
}

// TestP2205Work: work to a worker that is up comes back as a part, to one that is down it is lost; one that came back takes it again, and a part of one that went down since is taken.
func TestP2205Work(t *testing.T) {
	r := rand.New(rand.NewSource(2205))
	for _, w := range widths {
		p, s := mixed(w), mixedSet(r, 5, w)
		x := behind(t, p, s, 0)
		c := made(t, p, s, 3, 1, 9)
		for i, rows := range [][]int{{0, 1}, {2, 3}, {4}} {
			told, _, _ := part.Of(p, x.Params, s, rows)
			all(t, c.Crash(i), c.Double(0), c.Double(0))
			wantLetGo(t, "down", c, 0)
			n := len(c.Mail())
			all(t, c.Restart(i), c.Deliver(n-2))
			mail := c.Mail()
			if len(mail) != n {
				t.Fatalf("%v", mail)
			}
			wantMail(t, "back", mail[n-1], api.Mail{Kind: 2, From: i, To: -1, Rows: rows, Part: told})
			all(t, c.Crash(i))
			wantLetGo(t, "down again", c, n-2)
			wantSteps(t, "on the way", c, 0)
			all(t, c.Deliver(len(c.Mail())-1), c.Restart(i))
		}
		wantDone(t, "all parts", c, api.Where{}, api.OK)
	}
}

// TestP2205Elder: a part of an elder step is let go, and its rows are not in by it; so is the part that work of an elder step brings.
func TestP2205Elder(t *testing.T) {
	p, s := example()
	c := made(t, p, s, 2, 4, 1)
	all(t, c.Double(0), c.Deliver(0), c.Double(2), c.Deliver(0), c.Deliver(1), c.Deliver(2))
	wantSteps(t, "one step", c, 1)
	// Two parts of step 0, rows 0 1, one of which made the step with that of row 2; and work.
	mail := c.Mail()
	if len(mail) != 4 || mail[0].Kind != api.MailWork || mail[0].Step != 0 || mail[1].Kind != api.MailPart || mail[1].Step != 0 {
		t.Fatal(mail)
	}
	wantLetGo(t, "an elder part", c, 1)
	all(t, c.Deliver(0))
	mail = c.Mail()
	if len(mail) != 3 || mail[2].Kind != api.MailPart || mail[2].Step != 0 {
		t.Fatal(mail)
	}
	wantLetGo(t, "a part of elder work", c, 2)
	c.Tick()
	wantWork(t, "no row is in", last(c, 2), workFor{0, 1, []int{0, 1}}, workFor{1, 1, []int{2}})
	deliverAll(t, c)
	wantRun(t, c, oneMachine(t, p, s, behind(t, p, s, 0), 4))
	wantDone(t, "the end", c, api.Where{}, api.OK)
}

// TestP2205Later: a part of a later step, of one that can't be, or of no rows of the step, is let go.
func TestP2205Later(t *testing.T) {
	p, s := example()
	c := made(t, p, s, 1, 2, 1)
	told, _, _ := part.Of(p, behind(t, p, s, 0).Params, s, upTo(3))
	for _, step := range append([]int{1, 2, -1, 3}, ends...) {
		c.Lay(api.Mail{Step: step, Rows: upTo(3), Part: told})
		wantLetGo(t, "another step", c, len(c.Mail())-1)
		c.Lay(api.Mail{Step: step, Rows: upTo(3), Where: api.Where{Kind: 1}, Err: api.ErrInf})
		wantLetGo(t, "another step", c, len(c.Mail())-1)
	}
	c.Tick()
	wantWork(t, "no row is in", last(c, 1), workFor{0, 0, upTo(3)})
	c.Lay(api.Mail{Rows: upTo(3), Part: told})
	all(t, c.Deliver(len(c.Mail())-1))
	wantSteps(t, "this step", c, 1)
}

// TestP2205Twice: a part one of whose rows is in is let go whole: the same part, and one of other rows besides.
func TestP2205Twice(t *testing.T) {
	r := rand.New(rand.NewSource(1))
	for _, w := range widths {
		p, s := mixed(w), mixedSet(r, 5, w)
		for _, first := range []int{0, 1, 2} {
			c := made(t, p, s, 3, 1, 1)
			shards := [][]int{{0, 1}, {2, 3}, {4}}
			all(t, c.Deliver(first), c.Double(2), c.Deliver(2))
			wantLetGo(t, "the same part", c, 2)
			// All that is left is dealt to one worker, together; then that, doubled, and an elder one of some of it.
			all(t, c.Crash(0), c.Crash(1))
			c.Tick()
			var left []int
			for i, rows := range shards {
				if i != first {
					left = append(left, rows...)
				}
			}
			wantWork(t, "what is left", last(c, 1), workFor{2, 0, left})
			all(t, c.Restart(0), c.Restart(1), c.Deliver(2), c.Deliver(0), c.Deliver(0), c.Deliver(1))
			wantLetGo(t, "with others besides", c, 0) // The part of all that is left: of one shard the rows are in.
			wantSteps(t, "one shard is missing", c, 0)
			all(t, c.Deliver(0))
			wantDone(t, "all rows", c, api.Where{}, api.OK)
			wantRun(t, c, oneMachine(t, p, s, behind(t, p, s, 0), 1))
		}
	}
}

// orders tells all orders of so many things.
func orders(n int) [][]int {
	if n == 0 {
		return [][]int{nil}
	}
	var l [][]int
	for _, o := range orders(n - 1) {
		for at := range n {
			l = append(l, slices.Insert(slices.Clone(o), at, n-1))
		}
	}
	return l
}

// TestP2205Refused: rows that stop, one and several, each kind of them, in every order of their parts: the master is refused when all are in, with the least row's Where and error.
func TestP2205Refused(t *testing.T) {
	for _, w := range widths {
		p, l := scalar(w, api.OpSqrt), kinds(w)
		p.Batch = 4
		for stops := 1; stops < 16; stops++ { // Which of the four rows stop.
			rows := slices.Clone(l[:2])
			rows = append(rows, l[0], l[1])
			least := -1
			for i := range 4 {
				if stops>>i&1 == 1 {
					rows[i] = l[2+(i+stops)%4]
					if least < 0 {
						least = i
					}
				}
			}
			where := rows[least].where
			where.Row = least
			for workers := 1; workers < 5; workers++ {
				for _, order := range orders(min(workers, 4)) {
					c := made(t, p, setOf(w, rows...), workers, 2, 1)
					for _, i := range order { // The parts stand in this order.
						at := slices.IndexFunc(c.Mail(), func(m api.Mail) bool { return m.Kind == api.MailWork && m.To == i })
						all(t, c.Deliver(at))
					}
					for range order {
						wantSteps(t, "not all are in", c, 0)
						all(t, c.Deliver(0))
					}
					wantDone(t, "refused", c, where, rows[least].e)
					if got := look(c); got.state.Step != 0 || len(got.traces) != 0 || len(got.mail) != 0 {
						t.Errorf("%v", got)
					}
				}
			}
		}
	}
}

// TestP2205Behind: a step is refused behind others that were made.
func TestP2205Behind(t *testing.T) {
	r := rand.New(rand.NewSource(2))
	for _, w := range widths {
		p, l := scalar(w, api.OpSqrt), kinds(w)
		p.Batch, p.Schedule.Base = 1, bitsOf(0x1p-10)
		steps := map[int]bool{}
		for _, k := range l[2:] {
			for at := range 4 {
				rows := slices.Repeat(l[:1], 4)
				rows[at] = k
				s := setOf(w, rows...)
				c := made(t, p, s, 1+r.Intn(3), 9, 1)
				deliverAll(t, c)
				where := k.where
				where.Row = at
				wantDone(t, "refused", c, where, k.e)
				wantRun(t, c, oneMachine(t, p, s, behind(t, p, s, 0), 9))
				steps[len(c.Traces())] = true
			}
		}
		if len(steps) < 3 {
			t.Errorf("refused behind %v steps", steps)
		}
	}
}

// TestP2205Apply: what Apply refuses refuses the master: a rate, which has no Where, and a parameter.
func TestP2205Apply(t *testing.T) {
	for _, w := range widths {
		p := scalar(w, api.OpMul)
		s := api.Set{X: vals(3, 1, w, 1, 1, 1), Y: vals(3, 1, w, 1, 1, 1)}
		p.Schedule = api.Schedule{Kind: api.RateSteps, Base: bitsOf(1), Factor: bitsOf(math.MaxFloat64), Every: 2}
		c := made(t, p, s, 2, 9, 1)
		deliverAll(t, c)
		if w == 64 { // The third rate is infinite.
			wantDone(t, "a rate", c, api.Where{}, api.ErrInf)
		} else { // The second one is none of binary32.
			wantDone(t, "a rate", c, api.Where{Kind: api.InParam}, api.ErrArg)
		}
		if x, steps := c.State(), w/16; x.Step != steps || len(c.Traces()) != steps {
			t.Errorf("%v, want %d steps", x, steps)
		}
		wantRun(t, c, oneMachine(t, p, s, behind(t, p, s, 0), 9))
		p.Schedule = api.Schedule{Base: bitsOf(2)}
		great := pattern(math.MaxFloat64, 64)
		if w == 32 {
			great = pattern(math.MaxFloat32, 32)
		}
		x := behind(t, p, s, 0)
		p.Tape.Nodes = append(p.Tape.Nodes[:3:3], takes(api.OpMul, 0, 2), takes(api.OpNeg, 3), takes(api.OpAdd, 4, 1))
		s.X.Bits = []int{great, great, great}
		c = madeFrom(t, p, s, x, 2, 9, 1)
		deliverAll(t, c)
		wantDone(t, "a parameter", c, api.Where{Kind: api.InParam}, api.ErrInf)
		wantRun(t, c, oneMachine(t, p, s, x, 9))
	}
}

// TestP2205Done: mail that comes when the master is done: work is reckoned, parts are let go.
func TestP2205Done(t *testing.T) {
	for _, w := range widths {
		p, l := scalar(w, api.OpSqrt), kinds(w)
		for _, k := range []kind{l[0], l[2]} {
			s := setOf(w, l[0], l[1], k)
			c := made(t, p, s, 2, 1, 1)
			all(t, c.Double(0), c.Double(1), c.Double(0), c.Deliver(0), c.Deliver(0), c.Double(3), c.Double(4))
			// Work to 0, to 1, to 0; then a part of each, and each once more.
			all(t, c.Deliver(3), c.Deliver(3))
			where := k.where
			if k.e != api.OK {
				where.Row = 2
			}
			wantDone(t, "done", c, where, k.e)
			mail := c.Mail()
			if len(mail) != 5 || mail[3].Kind != api.MailPart || mail[4].Kind != api.MailPart {
				t.Fatal(mail)
			}
			wantLetGo(t, "a part", c, 3)
			wantLetGo(t, "a part", c, 3)
			all(t, c.Crash(1))
			wantLetGo(t, "work to one that is down", c, 1)
			all(t, c.Deliver(0))
			mail = c.Mail()
			if len(mail) != 2 || mail[1].Kind != api.MailPart || mail[1].From != 0 || !slices.Equal(mail[1].Rows, []int{0, 1}) {
				t.Fatal(mail)
			}
			wantLetGo(t, "its part", c, 1)
			deliverAll(t, c)
			wantDone(t, "done", c, where, k.e)
			c.Tick()
			wantWork(t, "done", c)
		}
	}
}

// TestP2205Step: the new state and the trace are those of Apply of what is in.
func TestP2205Step(t *testing.T) {
	r := rand.New(rand.NewSource(3))
	for _, w := range widths {
		p, s := mixed(w), mixedSet(r, 8, w)
		c := made(t, p, s, 3, 6, 1)
		for step := range 6 {
			x := behind(t, p, s, step)
			rows, _ := train.Rows(p, s, x)
			whole, _, _ := part.Of(p, x.Params, s, rows)
			y, trace, _, e := train.Apply(p, s, x, whole)
			if e != api.OK {
				t.Fatal(e)
			}
			for c.State().Step == step {
				all(t, c.Deliver(r.Intn(len(c.Mail()))))
			}
			if l := c.Traces(); len(l) != step+1 || l[step] != trace || !sameState(c.State(), y) {
				t.Errorf("step %d: %v, %v, want %v, %v", step, l, c.State(), trace, y)
			}
		}
	}
}
