package train

import (
	"slices"

	"pupil/api"
	"pupil/bits"
	"pupil/data"
	"pupil/optim"
	"pupil/part"
	"pupil/rate"
	"pupil/start"
	"pupil/tape"
	"pupil/tensor"
)

// training is a plan for a set, and what hangs on both alone: the state at the beginning, how many batches an epoch has, and the width of the loss.
type training struct {
	api.Plan
	set     api.Set
	first   api.State
	batches int
	width   int
}

// begin tells the training of a plan and a set, or why that is no plan for it.
func begin(p api.Plan, s api.Set) (*training, error) {
	t := &training{Plan: p, set: s}
	if err := inTurn(t.fit, t.makeParams, t.checkRule, t.checkRate, t.checkBatch); err != nil {
		return nil, err
	}
	t.first.Slots = make([][]api.Matrix, len(t.Inits))
	for i, w := range t.first.Params {
		t.first.Slots[i], _ = optim.Fresh(t.Rule, w) // The rule is one of this width, and the parameter is finite.
	}
	return t, nil
}

// fit wants the plan's tape to fit the set.
func (t *training) fit() error {
	if e := part.Fits(t.Plan, t.set); e != api.OK {
		return refused(api.Where{}, e)
	}
	shapes, _ := tape.Check(t.Tape)
	t.width = shapes[t.Loss].Width
	return nil
}

// makeParams makes the first parameters.
func (t *training) makeParams() error {
	params, _, e := start.All(t.Inits, t.Seed)
	t.first.Params = params
	return refused(api.Where{}, e)
}

// checkRule wants the rule to be one of all widths that there are.
func (t *training) checkRule() error {
	for _, x := range t.Inits {
		if e := optim.Check(t.Rule, x.Width); e != api.OK {
			return refused(api.Where{}, e)
		}
	}
	return nil
}

// checkRate wants the schedule to be one.
func (t *training) checkRate() error { return refused(api.Where{}, rate.Check(t.Schedule)) }

// checkBatch wants the batches to have a size that they may have.
func (t *training) checkBatch() error {
	if t.Batch < 1 || t.Batch > api.MaxBatch {
		return refused(api.Where{}, api.ErrArg)
	}
	t.batches, _ = data.Batches(t.set.X.Rows, t.Batch)
	return nil
}

// place tells the epoch, and the batch within it, that come next behind so many steps.
func (t *training) place(steps int) (epoch, batch int) { return steps / t.batches, steps % t.batches }

// has tells whether a state is one of the training's.
func (t *training) has(x api.State) bool {
	if x.Step < 0 || x.Step > api.MaxStep {
		return false
	}
	if epoch, batch := t.place(x.Step); x.Epoch != epoch || x.Batch != batch {
		return false
	}
	return allAlike(x.Params, t.first.Params) && slices.EqualFunc(x.Slots, t.first.Slots, allAlike) &&
		isFinite(x.Loss, t.width) && isFinite(x.Rate, wide) && !bits.Less(x.Rate, 0, wide)
}

// wide is the width of rates.
const wide = 64

// isFinite tells whether bits are those of a finite float.
func isFinite(b, width int) bool { return bits.Class(b, width) < api.IsInfinite }

// allAlike tells whether matrices are, one by one, finite and of the shapes of others.
func allAlike(l, others []api.Matrix) bool { return slices.EqualFunc(l, others, alike) }

// alike tells whether a matrix is in form, finite, and of the shape of another one.
func alike(m, other api.Matrix) bool {
	_, e := tensor.Finite(m)
	return e == api.OK && m.Rows == other.Rows && m.Cols == other.Cols && m.Width == other.Width
}
