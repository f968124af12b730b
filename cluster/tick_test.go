package cluster_test

import (
	"slices"
	"testing"

	"pupil/api"
)

// TestP2207Patience: a note that is one tick too young, just old enough, older, at each patience.
func TestP2207Patience(t *testing.T) {
	p, s := example()
	for _, patience := range []int{1, 2, 3, 10, api.MaxList} {
		c := made(t, p, s, 1, 1, patience)
		all(t, c.Drop(0))
		for tick := 1; tick < patience; tick++ {
			c.Tick()
		}
		wantWork(t, "too young", c)
		c.Tick()
		wantWork(t, "just old enough", c, workFor{0, 0, upTo(3)})
		if patience > 100 {
			continue
		}
		// The worker is down while the notes grow old.
		c = made(t, p, s, 1, 1, patience)
		all(t, c.Drop(0), c.Crash(0))
		for range patience + 5 {
			c.Tick()
		}
		wantWork(t, "no worker", c)
		all(t, c.Restart(0))
		c.Tick()
		wantWork(t, "older", c, workFor{0, 0, upTo(3)})
	}
}

// TestP2207Some: rows of notes of several ages: those that are old enough are dealt together, the others are not.
func TestP2207Some(t *testing.T) {
	p, s := scalar(64, api.OpMul), api.Set{X: vals(6, 1, 64, 1, 2, 3, 4, 5, 6), Y: vals(6, 1, 64, 0, 0, 0, 0, 0, 0)}
	p.Batch = 6
	c := made(t, p, s, 3, 1, 2)
	wantWork(t, "two rows each", c, workFor{0, 0, []int{0, 1}}, workFor{1, 0, []int{2, 3}}, workFor{2, 0, []int{4, 5}})
	// Rows 2 and 3 are in; the others are lost, and dealt anew together at the second tick.
	all(t, c.Deliver(1), c.Deliver(2))
	dropAll(t, c)
	c.Tick()
	wantWork(t, "too young", c)
	c.Tick()
	wantWork(t, "dealt anew", c, workFor{0, 0, []int{0, 1}}, workFor{1, 0, []int{4}}, workFor{2, 0, []int{5}})
	// 0 and 1 are lost, 4 comes in, 5 is late: at the fourth tick the three that are left are dealt together.
	all(t, c.Drop(0), c.Deliver(0), c.Deliver(1))
	c.Tick()
	wantWork(t, "too young", c, workFor{2, 0, []int{5}})
	c.Tick()
	wantWork(t, "dealt anew", c, workFor{2, 0, []int{5}}, workFor{0, 0, []int{0}}, workFor{1, 0, []int{1}}, workFor{2, 0, []int{5}})
	all(t, c.Crash(1), c.Crash(2))
	dropAll(t, c)
	c.Tick()
	c.Tick()
	wantWork(t, "one worker", c, workFor{0, 0, []int{0, 1, 5}})
	deliverAll(t, c)
	wantDone(t, "all rows", c, api.Where{}, api.OK)
}

// TestP2207Ages: rows that come in leave the notes of the others as they are, and these are made anew by dealing alone.
func TestP2207Ages(t *testing.T) {
	p, s := example()
	c := made(t, p, s, 3, 2, 3)
	c.Tick()
	c.Tick()
	all(t, c.Deliver(0), c.Deliver(2)) // Row 0 is in, at the second tick.
	dropAll(t, c)
	c.Tick()
	wantWork(t, "the notes of the beginning", c, workFor{0, 0, []int{1}}, workFor{1, 0, []int{2}})
	all(t, c.Deliver(1), c.Deliver(1)) // Row 2 is in; row 1 has a note of the third tick.
	dropAll(t, c)
	c.Tick()
	c.Tick()
	wantWork(t, "too young", c)
	c.Tick()
	wantWork(t, "just old enough", c, workFor{0, 0, []int{1}})
}

// TestP2207Each: with patience 1 each tick deals all that is missing.
func TestP2207Each(t *testing.T) {
	p, s := example()
	c := made(t, p, s, 2, 1, 1)
	want := []workFor{{0, 0, []int{0, 1}}, {1, 0, []int{2}}}
	for range 5 {
		wantWork(t, "each tick", c, want...)
		c.Tick()
		want = append(want, want[:2]...)
	}
	all(t, c.Deliver(1), c.Deliver(len(want)-1))
	mail := c.Mail()
	c.Tick()
	if l := c.Mail(); len(l) != len(mail)+2 || !slices.Equal(l[len(mail)].Rows, []int{0}) || !slices.Equal(l[len(mail)+1].Rows, []int{1}) {
		t.Errorf("%v", l)
	}
}

// TestP2207Done: a master that is done, by its steps or by a refusal, deals nothing, whatever the clock shows.
func TestP2207Done(t *testing.T) {
	l := kinds(64)
	for _, k := range []kind{l[0], l[4]} {
		p, s := scalar(64, api.OpSqrt), setOf(64, l[0], k, l[1])
		c := made(t, p, s, 2, 1, 1)
		deliverAll(t, c)
		for range 5 {
			wantStill(t, "done", c, api.OK, func() api.Errno { c.Tick(); return api.OK })
		}
		if done, _, e := c.Done(); !done || e != k.e {
			t.Errorf("%v, %v", done, e)
		}
	}
}

// TestP2207Nothing: a tick changes nothing but the clock, where no row is late.
func TestP2207Nothing(t *testing.T) {
	p, s := example()
	c := made(t, p, s, 2, 2, 50)
	for range 49 {
		wantStill(t, "too young", c, api.OK, func() api.Errno { c.Tick(); return api.OK })
	}
	c.Tick()
	if l := c.Mail(); len(l) != 4 {
		t.Errorf("%v", l)
	}
}
