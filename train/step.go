package train

import (
	"slices"

	"pupil/apart"
	"pupil/api"
	"pupil/data"
	"pupil/optim"
	"pupil/part"
	"pupil/rate"
)

// step is a step of a training that is being made, from a state to the next. Each piece of its work leaves what it tells to those behind it.
type step struct {
	*training
	from, to api.State
	rows     []int
	part     api.Part
	loss     int
	grads    []api.Matrix
	rate     int
}

// standing tells the step that is next of a plan and a set at a state, or why it is no state of them.
func standing(p api.Plan, s api.Set, x api.State) (*step, error) {
	t, err := begin(p, s)
	if err != nil {
		return nil, err
	}
	if !t.has(x) {
		return nil, refused(api.Where{}, api.ErrState)
	}
	return &step{training: t, from: x}, nil
}

// byRows is the work of a step whose rows are reckoned here.
func (m *step) byRows() []func() error {
	return []func() error{m.take, m.reckon, m.close, m.pace, m.scale, m.learn}
}

// byPart is the work of a step whose part was reckoned elsewhere.
func (m *step) byPart() []func() error {
	return []func() error{m.take, m.match, m.close, m.pace, m.scale, m.learn}
}

// take takes the rows of the batch that comes next.
func (m *step) take() error {
	if m.from.Step == api.MaxStep {
		return refused(api.Where{}, api.ErrLong)
	}
	rows, e := data.Batch(m.set.X.Rows, m.Batch, m.Seed, m.from.Epoch, m.from.Batch)
	m.rows = rows
	return refused(api.Where{}, e)
}

// reckon lets the rows tell their part.
func (m *step) reckon() error {
	x, where, e := part.Of(m.Plan, m.from.Params, m.set, m.rows)
	m.part = x
	return refused(where, e)
}

// match wants a part to be that of the rows.
func (m *step) match() error {
	if !slices.Equal(m.part.Rows, m.rows) {
		return refused(api.Where{}, api.ErrRow)
	}
	return nil
}

// close rounds what the rows have told.
func (m *step) close() error {
	loss, grads, where, e := part.Close(m.Plan, m.part)
	m.loss, m.grads = loss, grads
	return refused(where, e)
}

// pace asks for the rate.
func (m *step) pace() error {
	b, e := rate.At(m.Schedule, m.from.Step)
	m.rate = b
	return refused(api.Where{}, e)
}

// scale brings the gradients to the size that the rule allows.
func (m *step) scale() error {
	grads, e := optim.Scale(m.Rule.Norm, m.grads)
	m.grads = grads
	return refused(api.Where{}, e)
}

// learn makes the next state. Nothing of it is told until all parameters are made.
func (m *step) learn() error {
	count := len(m.from.Params)
	to := api.State{Step: m.from.Step + 1, Loss: m.loss, Rate: m.rate, Params: make([]api.Matrix, count), Slots: make([][]api.Matrix, count)}
	to.Epoch, to.Batch = m.place(to.Step)
	for i, w := range m.from.Params {
		made, slots, at, e := optim.Step(m.Rule, m.rate, w, m.grads[i], m.from.Slots[i])
		if e != api.OK {
			return refused(api.Where{Kind: api.InParam, Node: i, At: at}, e)
		}
		to.Params[i], to.Slots[i] = made, slots
	}
	m.to = to
	return nil
}

// trace tells what a step that was made tells.
func (m *step) trace() api.Trace {
	return api.Trace{Step: m.from.Step, Loss: m.loss, Rate: m.rate, Sum: Sum(m.to)}
}

// answer tells a step as the calls tell it. Of a refused one there may be none.
func (m *step) answer(err error) (api.State, api.Trace, api.Where, api.Errno) {
	if err != nil {
		where, e := told(err)
		return api.State{}, api.Trace{}, where, e
	}
	return m.to, m.trace(), api.Where{}, api.OK
}

// run makes so many steps from this one on, up to the first that is refused: the state behind those that were made, and their traces. A state that a step makes is the training's: it need not be looked at again.
func (m *step) run(steps int) (api.State, []api.Trace, error) {
	at, traces := apart.State(m.from), []api.Trace(nil)
	for range steps {
		next := &step{training: m.training, from: at}
		if err := inTurn(next.byRows()...); err != nil {
			return at, traces, err
		}
		at, traces = next.to, append(traces, next.trace())
	}
	return at, traces, nil
}
