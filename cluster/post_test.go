package cluster_test

import (
	"math/rand"
	"slices"
	"testing"

	"pupil/api"
)

// wantRow wants the mail to be some of a list of messages, by their places in it.
func wantRow(t *testing.T, what string, m machine, l []api.Mail, places []int) {
	t.Helper()
	mail := m.Mail()
	ok := len(mail) == len(places)
	for i := range min(len(mail), len(places)) {
		ok = ok && sameMail(mail[i], l[places[i]])
	}
	if !ok {
		t.Errorf("%s: %v, want those at %v of %v", what, mail, places, l)
	}
}

// TestP2206Drop: each place; no place.
func TestP2206Drop(t *testing.T) {
	r := rand.New(rand.NewSource(2206))
	p, s := mixed(64), mixedSet(r, 5, 64)
	l := made(t, p, s, 5, 1, 1).Mail()
	for i := range 5 {
		c := made(t, p, s, 5, 1, 1)
		for _, n := range append([]int{-1, 5, 6}, ends...) {
			wantStill(t, "no message", c, api.ErrMail, func() api.Errno { return c.Drop(n) })
		}
		all(t, c.Drop(i))
		wantRow(t, "dropped", c, l, slices.Delete(upTo(5), i, i+1))
	}
	c := made(t, p, s, 5, 1, 1)
	dropAll(t, c)
	for _, n := range []int{-1, 0, 1} {
		wantStill(t, "no mail", c, api.ErrMail, func() api.Errno { return c.Drop(n) })
	}
}

// TestP2206Double: each place; no place.
func TestP2206Double(t *testing.T) {
	r := rand.New(rand.NewSource(1))
	p, s := mixed(64), mixedSet(r, 5, 64)
	l := made(t, p, s, 5, 1, 1).Mail()
	for i := range 5 {
		c := made(t, p, s, 5, 1, 1)
		for _, n := range append([]int{-1, 5, 6}, ends...) {
			wantStill(t, "no message", c, api.ErrMail, func() api.Errno { return c.Double(n) })
		}
		all(t, c.Double(i))
		wantRow(t, "doubled", c, l, append(upTo(5), i))
		all(t, c.Double(5), c.Double(0))
		wantRow(t, "doubled", c, l, append(upTo(5), i, i, 0))
	}
	// A part too.
	c := made(t, p, s, 1, 1, 1)
	all(t, c.Deliver(0), c.Double(0))
	if l := c.Mail(); len(l) != 2 || !sameMail(l[0], l[1]) || l[0].Kind != api.MailPart {
		t.Errorf("%v", l)
	}
	dropAll(t, c)
	for _, n := range []int{-1, 0, 1} {
		wantStill(t, "no mail", c, api.ErrMail, func() api.Errno { return c.Double(n) })
	}
}

// TestP2206Move: from each place to each: to the left, to the right, to where it stands; no place.
func TestP2206Move(t *testing.T) {
	r := rand.New(rand.NewSource(2))
	p, s := mixed(64), mixedSet(r, 5, 64)
	l := made(t, p, s, 5, 1, 1).Mail()
	for i := range 5 {
		for to := range 5 {
			c := made(t, p, s, 5, 1, 1)
			for _, n := range append([]int{-1, 5, 6}, ends...) {
				wantStill(t, "no message", c, api.ErrMail, func() api.Errno { return c.Move(n, to) })
				wantStill(t, "no place", c, api.ErrMail, func() api.Errno { return c.Move(i, n) })
				wantStill(t, "neither", c, api.ErrMail, func() api.Errno { return c.Move(n, n) })
			}
			all(t, c.Move(i, to))
			places := slices.Insert(slices.Delete(upTo(5), i, i+1), to, i)
			if places[to] != i {
				t.Fatal(places)
			}
			wantRow(t, "moved", c, l, places)
			all(t, c.Move(to, i))
			wantRow(t, "moved back", c, l, upTo(5))
		}
	}
	c := made(t, p, s, 1, 1, 1)
	all(t, c.Move(0, 0))
	dropAll(t, c)
	wantStill(t, "no mail", c, api.ErrMail, func() api.Errno { return c.Move(0, 0) })
}

// TestP2206Most: at as many messages as there may be none is doubled; all else goes on, and what is sent comes besides.
func TestP2206Most(t *testing.T) {
	p, s := example()
	c := made(t, p, s, 2, 1, 1)
	for n := 2; n < api.MaxList-1; n++ {
		all(t, c.Double(0))
	}
	all(t, c.Double(1))
	to := func(i int) int { return c.Mail()[i].To }
	if n := len(c.Mail()); n != api.MaxList || to(n-1) != 1 || to(1) != 1 || to(2) != 0 {
		t.Fatalf("%d messages", n)
	}
	for _, i := range []int{0, 1, api.MaxList - 1} {
		if e := c.Double(i); e != api.ErrLong {
			t.Errorf("Double(%d): %v", i, e)
		}
	}
	for _, i := range []int{-1, api.MaxList, highest} {
		if e := c.Double(i); e != api.ErrMail {
			t.Errorf("Double(%d): %v", i, e)
		}
		if e, f := c.Move(0, i), c.Move(i, 0); e != api.ErrMail || f != api.ErrMail {
			t.Errorf("Move, %d: %v, %v", i, e, f)
		}
	}
	all(t, c.Move(1, api.MaxList-1))
	if to(0) != 0 || to(1) != 0 || to(api.MaxList-2) != 1 || to(api.MaxList-1) != 1 {
		t.Error("the second one is not at the end")
	}
	all(t, c.Move(api.MaxList-1, 0))
	if to(0) != 1 || to(1) != 0 || to(api.MaxList-1) != 1 || to(api.MaxList-2) != 0 {
		t.Error("the last one is not the first")
	}
	all(t, c.Drop(api.MaxList-2), c.Double(0))
	if n := len(c.Mail()); n != api.MaxList || to(n-1) != 1 || to(n-2) != 1 {
		t.Errorf("%d messages", n)
	}
	if e := c.Double(0); e != api.ErrLong {
		t.Errorf("Double: %v", e)
	}
	c.Tick() // Two more.
	if n, e := len(c.Mail()), c.Double(0); n != api.MaxList+2 || e != api.ErrLong {
		t.Errorf("%d messages, %v", n, e)
	}
	all(t, c.Drop(5), c.Deliver(0), c.Deliver(1))
	if n, e := len(c.Mail()), c.Double(0); n != api.MaxList+1 || e != api.ErrLong {
		t.Errorf("%d messages, %v", n, e)
	}
	all(t, c.Deliver(api.MaxList), c.Deliver(api.MaxList-1))
	wantDone(t, "the step", c, api.Where{}, api.OK)
	if e := c.Double(0); e != api.OK {
		t.Errorf("Double of %d messages: %v", len(c.Mail()), e)
	}
	for range api.MaxList {
		all(t, c.Drop(0))
	}
	wantWork(t, "all dropped", c)
}

// TestP2206Workers: each worker goes down and comes up; what can't be, and no worker.
func TestP2206Workers(t *testing.T) {
	p, s := example()
	for _, n := range []int{1, 3, api.MaxWorkers} {
		c := made(t, p, s, n, 1, 1)
		up := slices.Repeat([]bool{true}, n)
		check := func() {
			t.Helper()
			if l := c.Up(); !slices.Equal(l, up) {
				t.Errorf("%v, want %v", l, up)
			}
		}
		for _, no := range append([]int{-1, n, n + 1}, ends...) {
			wantStill(t, "no worker", c, api.ErrWorker, func() api.Errno { return c.Crash(no) })
			wantStill(t, "no worker", c, api.ErrWorker, func() api.Errno { return c.Restart(no) })
		}
		for i := range n {
			check()
			wantStill(t, "it is up", c, api.ErrArg, func() api.Errno { return c.Restart(i) })
			before := c.Mail()
			all(t, c.Crash(i))
			up[i] = false
			check()
			wantStill(t, "it is down", c, api.ErrDown, func() api.Errno { return c.Crash(i) })
			if !slices.EqualFunc(c.Mail(), before, sameMail) {
				t.Error("its mail has changed")
			}
		}
		for _, no := range []int{-1, n} {
			wantStill(t, "no worker", c, api.ErrWorker, func() api.Errno { return c.Crash(no) })
			wantStill(t, "no worker", c, api.ErrWorker, func() api.Errno { return c.Restart(no) })
		}
		for i := range slices.Backward(up) {
			all(t, c.Restart(i))
			up[i] = true
			check()
		}
		deliverAll(t, c)
		wantDone(t, "all are back", c, api.Where{}, api.OK)
	}
}
