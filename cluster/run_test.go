package cluster_test

import (
	"slices"
	"testing"

	"pupil/api"
	"pupil/train"
)

// single is what one machine makes: the states, from the first one on, their traces, and why it ends, if it is refused.
type single struct {
	states []api.State
	traces []api.Trace
	where  api.Where
	e      api.Errno
}

// oneMachine runs a training up to so many steps in all.
func oneMachine(t *testing.T, p api.Plan, s api.Set, x api.State, steps int) single {
	t.Helper()
	whole, traces, where, e := train.Run(p, s, x, max(0, steps-x.Step))
	one := single{[]api.State{x}, traces, where, e}
	for i := range traces {
		y, _, _, e := train.Run(p, s, one.states[i], 1)
		if e != api.OK {
			t.Fatal(e)
		}
		one.states = append(one.states, y)
	}
	if !sameState(one.states[len(traces)], whole) {
		t.Fatal("step by step comes to something else")
	}
	return one
}

// wantRun wants a machine to tell what P2209 says, of what one machine makes.
func wantRun(t *testing.T, m machine, one single) {
	t.Helper()
	done, where, e := m.Done()
	traces, x := m.Traces(), m.State()
	n := len(traces)
	if n > len(one.traces) || !slices.Equal(traces, one.traces[:n]) {
		t.Fatalf("the traces: %v, want the first ones of %v", traces, one.traces)
	}
	if !sameState(x, one.states[n]) {
		t.Errorf("behind %d steps: %v, want %v", n, x, one.states[n])
	}
	all := n == len(one.traces)
	switch {
	case e != api.OK:
		if !done || !all || where != one.where || e != one.e {
			t.Errorf("%v, %v, %v behind %d steps, want %v, %v behind %d", done, where, e, n, one.where, one.e, len(one.traces))
		}
	case where != (api.Where{}):
		t.Errorf("%v without an error", where)
	case done != (all && one.e == api.OK):
		t.Errorf("done: %v behind %d steps of %d, %v", done, n, len(one.traces), one.e)
	}
}
