package cluster_test

import (
	"math/rand"
	"slices"
	"testing"

	"pupil/api"
	"pupil/train"
)

// TestP2208Way: the state, the traces and Done at the beginning, on the way and at the end.
func TestP2208Way(t *testing.T) {
	r := rand.New(rand.NewSource(2208))
	for _, w := range widths {
		p, s := mixed(w), mixedSet(r, 11, w)
		x := behind(t, p, s, 0)
		c := made(t, p, s, 3, 4, 1)
		for calls := 0; ; calls++ {
			n := len(c.Traces())
			y, traces, _, _ := train.Run(p, s, x, n)
			if got := look(c); !sameState(got.state, y) || !slices.Equal(got.traces, traces) || got.done != (n == 4) || got.where != (api.Where{}) || got.e != api.OK {
				t.Fatalf("%d calls: %v, want %v, %v", calls, got, y, traces)
			}
			if n == 4 {
				break
			}
			all(t, c.Deliver(0))
		}
	}
}

// TestP2208Refused: at a refusal the state and the traces are those ahead of it; Done tells where, and why, also later.
func TestP2208Refused(t *testing.T) {
	for _, w := range widths {
		p, l := scalar(w, api.OpSqrt), kinds(w)
		p.Batch, p.Schedule.Base = 2, bitsOf(0x1p-10)
		for _, k := range l[2:] {
			s := setOf(w, l[0], l[1], l[0], k)
			one := oneMachine(t, p, s, behind(t, p, s, 0), 5)
			c := made(t, p, s, 2, 5, 1)
			deliverAll(t, c)
			where := k.where
			where.Row = 3
			if one.where != where || one.e != k.e || len(one.traces) > 1 {
				t.Fatalf("%v", one)
			}
			want := seen{up: []bool{true, true}, state: one.states[len(one.traces)], traces: one.traces, done: true, where: where, e: k.e}
			for range 3 {
				if got := look(c); !got.same(want) {
					t.Errorf("%v, want %v", got, want)
				}
				c.Tick()
			}
		}
	}
}

// TestP2208From: the traces are those of the steps that were made here; the state has the steps ahead of them too.
func TestP2208From(t *testing.T) {
	r := rand.New(rand.NewSource(1))
	for _, w := range widths {
		p, s := mixed(w), mixedSet(r, 11, w)
		x := behind(t, p, s, 4)
		c := madeFrom(t, p, s, x, 2, 7, 1)
		deliverAll(t, c)
		y, traces, _, _ := train.Run(p, s, x, 3)
		wantDone(t, "seven steps", c, api.Where{}, api.OK)
		if got := look(c); !sameState(got.state, y) || !slices.Equal(got.traces, traces) || got.state.Step != 7 {
			t.Errorf("%v, want %v, %v", got, y, traces)
		}
	}
}
