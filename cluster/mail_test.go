package cluster_test

import (
	"math/rand"
	"slices"
	"testing"

	"pupil/api"
	"pupil/part"
	"pupil/train"
)

// wantMail wants a message to be another one, field by field.
func wantMail(t *testing.T, what string, got, want api.Mail) {
	t.Helper()
	if !sameMail(got, want) {
		t.Errorf("%s: %v, want %v", what, got, want)
	}
}

// TestP2202Fields: each field of work, and of a part, those that are zero too, of each worker and at each step.
func TestP2202Fields(t *testing.T) {
	r := rand.New(rand.NewSource(2202))
	for _, w := range widths {
		p, s := mixed(w), mixedSet(r, 11, w)
		c := made(t, p, s, 3, 4, 9)
		for step := range 4 {
			x := behind(t, p, s, step)
			rows, _ := train.Rows(p, s, x)
			shards := [][]int{rows} // The last batch of an epoch has one row.
			if len(rows) == 5 {
				shards = [][]int{rows[:2], rows[2:4], rows[4:]}
			}
			mail := c.Mail()
			if len(mail) != len(shards) {
				t.Fatalf("step %d: %v", step, mail)
			}
			for i, some := range shards {
				wantMail(t, "work", mail[i], api.Mail{Kind: 1, From: -1, To: i, Step: step, Rows: some, Params: x.Params})
				all(t, c.Deliver(0))
				sent := c.Mail()
				told, _, _ := part.Of(p, x.Params, s, some)
				wantMail(t, "a part", sent[len(sent)-1], api.Mail{Kind: 2, From: i, To: -1, Step: step, Rows: some, Part: told})
			}
			for range shards {
				all(t, c.Deliver(0))
			}
		}
		wantDone(t, "four steps", c, api.Where{}, api.OK)
	}
}

// TestP2202Refused: a part of rows that stop has a Where and an error, and no sums.
func TestP2202Refused(t *testing.T) {
	for _, w := range widths {
		p, l := scalar(w, api.OpSqrt), kinds(w)
		p.Batch = 4
		for _, k := range l[2:] {
			s := setOf(w, l[0], l[1], l[0], k)
			c := made(t, p, s, 2, 1, 1)
			all(t, c.Deliver(0), c.Deliver(0))
			where := k.where
			where.Row = 3
			told, _, _ := part.Of(p, []api.Matrix{vals(1, 1, w, 1)}, s, []int{0, 1})
			mail := c.Mail()
			if len(mail) != 2 {
				t.Fatal(mail)
			}
			wantMail(t, "rows that don't stop", mail[0], api.Mail{Kind: 2, From: 0, To: -1, Rows: []int{0, 1}, Part: told})
			wantMail(t, "rows that stop", mail[1], api.Mail{Kind: 2, From: 1, To: -1, Rows: []int{2, 3}, Where: where, Err: k.e})
		}
	}
}

// TestP2202Bare: work of a plan without a parameter has none, and its part no gradients.
func TestP2202Bare(t *testing.T) {
	for _, w := range widths {
		p, s := bare(w), api.Set{X: vals(2, 1, w, 3, 5), Y: vals(2, 1, w, 1, 1)}
		c := made(t, p, s, 1, 1, 1)
		wantMail(t, "work", c.Mail()[0], api.Mail{Kind: 1, From: -1, Rows: []int{0, 1}})
		all(t, c.Deliver(0))
		loss := api.Acc{Sum: api.Num{Mag: []int{1}, Exp: 3}}
		wantMail(t, "a part", c.Mail()[0], api.Mail{Kind: 2, To: -1, Rows: []int{0, 1}, Part: api.Part{Rows: []int{0, 1}, Loss: loss}})
		deliverAll(t, c)
		wantDone(t, "one step", c, api.Where{}, api.OK)
	}
}

// TestP2202End: what is sent comes to the end: parts, work of the next step, work that is dealt anew, by rising workers.
func TestP2202End(t *testing.T) {
	p, s := example()
	c := made(t, p, s, 3, 3, 1)
	ends := func(want ...int) { // The messages as workers' numbers, 10 more for work of a later step, below 0 for parts.
		t.Helper()
		var got []int
		for _, m := range c.Mail() {
			if m.Kind == api.MailPart {
				got = append(got, -1-m.From)
			} else {
				got = append(got, m.To+10*m.Step)
			}
		}
		if !slices.Equal(got, want) {
			t.Errorf("%v, want %v", got, want)
		}
	}
	ends(0, 1, 2)
	all(t, c.Deliver(1))
	ends(0, 2, -2)
	c.Tick()
	ends(0, 2, -2, 0, 1, 2)
	all(t, c.Deliver(0), c.Deliver(0))
	ends(-2, 0, 1, 2, -1, -3)
	all(t, c.Deliver(0), c.Deliver(3))
	ends(0, 1, 2, -3)
	all(t, c.Deliver(3))
	ends(0, 1, 2, 10, 11, 12)
	all(t, c.Crash(1), c.Deliver(4), c.Deliver(1), c.Double(0))
	ends(0, 2, 10, 12, 0)
}
