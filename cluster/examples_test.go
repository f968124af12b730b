package cluster_test

import (
	"slices"
	"testing"

	"pupil/api"
	"pupil/train"
)

// TestExamples: the chapter's table, line by line.
func TestExamples(t *testing.T) {
	p, s := example()
	c := made(t, p, s, 2, 2, 3)
	wantWork(t, "New", c, workFor{0, 0, []int{0, 1}}, workFor{1, 0, []int{2}})
	all(t, c.Deliver(1))
	if l := c.Mail(); len(l) != 2 || l[1].Kind != api.MailPart || l[1].From != 1 {
		t.Errorf("worker 1's part: %v", l)
	}
	all(t, c.Deliver(1))
	wantWork(t, "worker 1's part is in", c, workFor{0, 0, []int{0, 1}})
	all(t, c.Crash(0), c.Deliver(0))
	wantWork(t, "the work is lost", c)
	c.Tick()
	c.Tick()
	wantWork(t, "two ticks", c)
	c.Tick()
	wantWork(t, "three ticks", c, workFor{1, 0, []int{0, 1}})
	all(t, c.Deliver(0), c.Deliver(0))
	wantSteps(t, "the first step", c, 1)
	wantWork(t, "the first step", c, workFor{1, 1, []int{0, 1, 2}})
	if e := c.Deliver(5); e != api.ErrMail {
		t.Errorf("Deliver: %v", e)
	}
	if e := c.Crash(0); e != api.ErrDown {
		t.Errorf("Crash: %v", e)
	}
	if e := c.Restart(1); e != api.ErrArg {
		t.Errorf("Restart: %v", e)
	}
	if e := c.Crash(2); e != api.ErrWorker {
		t.Errorf("Crash: %v", e)
	}
	wantWork(t, "nothing has changed", c, workFor{1, 1, []int{0, 1, 2}})
	deliverAll(t, c)
	wantDone(t, "both steps", c, api.Where{}, api.OK)
	y, traces, _, _ := train.Run(p, s, behind(t, p, s, 0), 2)
	if !sameState(c.State(), y) || !slices.Equal(c.Traces(), traces) {
		t.Errorf("%v, %v, want %v, %v", c.State(), c.Traces(), y, traces)
	}
	const loss, seventh = 0x4032AAAAAAAAAAAB, 0x3FF2AAAAAAAAAAAB // The first step of chapter 21's table.
	if first := traces[0]; first.Step != 0 || first.Loss != loss || first.Rate != bitsOf(0.0625) || behind(t, p, s, 1).Params[0].Bits[0] != seventh {
		t.Errorf("%x", first)
	}
}
