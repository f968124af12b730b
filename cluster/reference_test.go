package cluster_test

import (
	"slices"

	"pupil/apart"
	"pupil/api"
	"pupil/data"
	"pupil/part"
	"pupil/train"
)

// plain is the chapter once more, sentence by sentence: its mail is messages as they are told, rows that are in and notes are marks at each row's number.
type plain struct {
	p               api.Plan
	s               api.Set
	steps, patience int
	up              []bool
	mail            []api.Mail
	clock           int
	state           api.State
	traces          []api.Trace
	refused         bool
	where           api.Where
	e               api.Errno

	in         [api.MaxRows]bool
	note       [api.MaxRows]int // one more than the tick; 0: there is none
	joined     *api.Part
	noted      bool
	notedWhere api.Where
	notedErr   api.Errno
}

// plainOf is P2201.
func plainOf(p api.Plan, s api.Set, x *api.State, workers, steps, patience int) (*plain, api.Errno) {
	if workers < 1 || patience < 1 || steps < 0 {
		return nil, api.ErrArg
	}
	if workers > 16 || steps > 65536 || patience > 65536 {
		return nil, api.ErrLong
	}
	first, e := train.New(p, s)
	if e != api.OK {
		return nil, e
	}
	if x != nil {
		if e := train.Is(p, s, *x); e != api.OK {
			return nil, e
		}
		first = *x
	}
	m := &plain{p: p, s: s, steps: steps, patience: patience, state: first}
	for range workers {
		m.up = append(m.up, true)
	}
	m.goOn()
	return m, api.OK
}

// goOn is P2203.
func (m *plain) goOn() {
	if m.done() {
		return
	}
	m.in, m.note, m.joined = [api.MaxRows]bool{}, [api.MaxRows]int{}, nil
	m.noted, m.notedWhere, m.notedErr = false, api.Where{}, 0
	rows, _ := train.Rows(m.p, m.s, m.state)
	m.deal(rows)
}

func (m *plain) done() bool { return m.refused || !(m.state.Step < m.steps) }

// deal is P2204.
func (m *plain) deal(rows []int) {
	var numbers []int
	for w, up := range m.up {
		if up {
			numbers = append(numbers, w)
		}
	}
	for _, r := range rows {
		m.note[r] = 0
		if len(numbers) > 0 {
			m.note[r] = m.clock + 1
		}
	}
	if len(numbers) == 0 {
		return
	}
	shards, _ := data.Shards(len(rows), len(numbers))
	for k, w := range numbers {
		if mine := rows[shards[k][0]:shards[k][1]]; len(mine) > 0 {
			m.mail = append(m.mail, api.Mail{Kind: 1, From: -1, To: w, Step: m.state.Step, Rows: mine, Params: m.state.Params})
		}
	}
}

// Deliver is P2205.
func (m *plain) Deliver(i int) api.Errno {
	if i < 0 || i >= len(m.mail) {
		return api.ErrMail
	}
	x := m.mail[i]
	m.Drop(i)
	if x.Kind == 2 {
		m.take(x)
		return api.OK
	}
	if m.up[x.To] {
		told, where, e := part.Of(m.p, x.Params, m.s, x.Rows)
		m.mail = append(m.mail, api.Mail{Kind: 2, From: x.To, To: -1, Step: x.Step, Rows: x.Rows, Part: told, Where: where, Err: e})
	}
	return api.OK
}

func (m *plain) take(x api.Mail) {
	if m.done() || x.Step != m.state.Step {
		return
	}
	for _, r := range x.Rows {
		if m.in[r] {
			return
		}
	}
	for _, r := range x.Rows {
		m.in[r] = true
	}
	if x.Err != api.OK {
		if !m.noted || x.Where.Row < m.notedWhere.Row {
			m.noted, m.notedWhere, m.notedErr = true, x.Where, x.Err
		}
	} else if m.joined == nil {
		m.joined = &x.Part
	} else {
		both, _ := part.Join(x.Part, *m.joined)
		m.joined = &both
	}
	if len(m.open()) > 0 {
		return
	}
	if m.noted {
		m.refused, m.where, m.e = true, m.notedWhere, m.notedErr
		return
	}
	y, trace, where, e := train.Apply(m.p, m.s, m.state, *m.joined)
	if e != api.OK {
		m.refused, m.where, m.e = true, where, e
		return
	}
	m.state, m.traces = y, append(m.traces, trace)
	m.goOn()
}

// open tells the rows of the step that are not in.
func (m *plain) open() []int {
	rows, _ := train.Rows(m.p, m.s, m.state)
	var l []int
	for _, r := range rows {
		if !m.in[r] {
			l = append(l, r)
		}
	}
	return l
}

// Drop, Double, Move, Crash, Restart and Up are P2206.
func (m *plain) Drop(i int) api.Errno {
	if i < 0 || i >= len(m.mail) {
		return api.ErrMail
	}
	m.mail = slices.Concat(m.mail[:i], m.mail[i+1:])
	return api.OK
}

func (m *plain) Double(i int) api.Errno {
	if i < 0 || i >= len(m.mail) {
		return api.ErrMail
	}
	if len(m.mail) >= 65536 {
		return api.ErrLong
	}
	m.mail = append(m.mail, m.mail[i])
	return api.OK
}

func (m *plain) Move(i, to int) api.Errno {
	if i < 0 || to < 0 || i >= len(m.mail) || to >= len(m.mail) {
		return api.ErrMail
	}
	x := m.mail[i]
	m.Drop(i)
	m.mail = slices.Concat(m.mail[:to], []api.Mail{x}, m.mail[to:])
	return api.OK
}

func (m *plain) Crash(w int) api.Errno {
	if w < 0 || w >= len(m.up) {
		return api.ErrWorker
	}
	if !m.up[w] {
		return api.ErrDown
	}
	m.up[w] = false
	return api.OK
}

func (m *plain) Restart(w int) api.Errno {
	if w < 0 || w >= len(m.up) {
		return api.ErrWorker
	}
	if m.up[w] {
		return api.ErrArg
	}
	m.up[w] = true
	return api.OK
}

func (m *plain) Up() []bool { return slices.Clone(m.up) }

// Tick is P2207.
func (m *plain) Tick() {
	m.clock++
	if m.done() {
		return
	}
	var l []int
	for _, r := range m.open() {
		if m.note[r] == 0 || m.clock-(m.note[r]-1) >= m.patience {
			l = append(l, r)
		}
	}
	if len(l) > 0 {
		m.deal(l)
	}
}

// Mail is P2202; State, Traces and Done are P2208.
func (m *plain) Mail() []api.Mail { return slices.Clone(m.mail) }

func (m *plain) State() api.State { return apart.State(m.state) }

func (m *plain) Traces() []api.Trace { return slices.Clone(m.traces) }

func (m *plain) Done() (bool, api.Where, api.Errno) { return m.done(), m.where, m.e }
