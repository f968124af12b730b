package cluster

import (
	"slices"

	"pupil/api"
	"pupil/data"
	"pupil/train"
)

// master makes the steps of what the workers tell. Of the step that it is at it knows which rows are not in yet, what the others have told, and from which tick on those that are missing are dealt anew. These were all dealt together the last time, at the step's beginning or at a tick: one such tick is for all of them.
type master struct {
	job
	steps, patience int

	clock  int
	state  api.State
	traces []api.Trace
	where  api.Where
	err    api.Errno

	missing []int
	told    tally
	due     int
}

// done tells whether there is nothing left to do: the master has been refused, or all steps are made.
func (m *master) done() bool { return m.err != api.OK || m.state.Step >= m.steps }

// goOn comes to the next step, if there is one, and deals its rows.
func (m *master) goOn(ready []int, out chan<- message) {
	m.told = tally{}
	if m.done() {
		return
	}
	m.missing, _ = train.Rows(m.plan, m.set, m.state) // The state is the plan's, and its step is below MaxList.
	m.deal(ready, out)
}

// deal sends the rows that are missing to those that are ready. Where none is, the next tick may find one.
func (m *master) deal(ready []int, out chan<- message) {
	m.due = m.clock
	if len(ready) == 0 {
		return
	}
	m.due += m.patience
	shards, _ := data.Shards(len(m.missing), len(ready)) // There are no more rows than a batch has, and a worker is ready.
	for i, x := range shards {
		if rows := m.missing[x[0]:x[1]:x[1]]; len(rows) > 0 {
			out <- work{to: ready[i], step: m.state.Step, rows: rows, params: m.state.Params}
		}
	}
}

// tick lets the clock go on, and deals what has been missing for too long.
func (m *master) tick(ready []int, out chan<- message) {
	m.clock++
	if !m.done() && m.clock >= m.due {
		m.deal(ready, out)
	}
}

// accept takes a worker's answer, if it is one of this step and none of its rows is in. With the last one the step is made.
func (m *master) accept(a answer, ready []int, out chan<- message) {
	if m.done() || a.step != m.state.Step || !m.lacks(a.rows) {
		return
	}
	m.told.put(a)
	m.strike(a.rows)
	if len(m.missing) == 0 {
		m.step(ready, out)
	}
}

// lacks tells whether all these rows are missing.
func (m *master) lacks(rows []int) bool {
	return !slices.ContainsFunc(rows, func(r int) bool { return !slices.Contains(m.missing, r) })
}

// strike lets rows be missing no more. Those that are left stand in new memory: work that is under way has the old one.
func (m *master) strike(rows []int) {
	var left []int
	for _, r := range m.missing {
		if !slices.Contains(rows, r) {
			left = append(left, r)
		}
	}
	m.missing = left
}

// step makes the step of what all rows have told, or is refused.
func (m *master) step(ready []int, out chan<- message) {
	if m.told.err != api.OK {
		m.where, m.err = m.told.where, m.told.err
		return
	}
	x, trace, where, e := train.Apply(m.plan, m.set, m.state, m.told.part)
	if e != api.OK {
		m.where, m.err = where, e
		return
	}
	m.state, m.traces = x, append(m.traces, trace)
	m.goOn(ready, out)
}
