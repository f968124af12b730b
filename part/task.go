package part

import (
	"sync"

	"pupil/api"
	"pupil/bits"
	"pupil/eval"
	"pupil/reverse"
	"pupil/tensor"
)

// hands is how many rows are reckoned at once, at the most.
const hands = 8

// task is what rows are reckoned with: a plan, parameters and a set that fit one another, and the seed with which all adjoints begin.
type task struct {
	plan   api.Plan
	net    net
	params []api.Matrix
	set    api.Set
	seed   api.Matrix
}

// begin tells the task of some rows, or why they can't be reckoned.
func begin(p api.Plan, params []api.Matrix, s api.Set, rows []int) (task, api.Errno) {
	n, e := fitting(p, s)
	if e == api.OK {
		e = n.checkParams(params)
	}
	if e == api.OK {
		e = checkRows(rows, s.X.Rows)
	}
	if e != api.OK {
		return task{}, e
	}
	w := n.shapes[p.Loss].Width
	seed := api.Matrix{Rows: 1, Cols: 1, Width: w, Bits: []int{bits.FromInt(1, w)}}
	return task{plan: p, net: n, params: params, set: s, seed: seed}, api.OK
}

// checkRows wants rows to be a batch's, of a set of so many.
func checkRows(rows []int, count int) api.Errno {
	switch {
	case len(rows) == 0:
		return api.ErrNone
	case len(rows) > api.MaxBatch:
		return api.ErrLong
	case !rise(rows, count):
		return api.ErrRow
	}
	return api.OK
}

// reckon puts together what rows tell. Each goroutine takes the next number that is left until there is none.
func (t task) reckon(rows []int) *tally {
	numbers := make(chan int, len(rows))
	for _, r := range rows {
		numbers <- r
	}
	close(numbers)
	var all tally
	var work sync.WaitGroup
	for range min(hands, len(rows)) {
		work.Add(1)
		go func() {
			defer work.Done()
			for r := range numbers {
				all.put(t.row(r))
			}
		}()
	}
	work.Wait()
	return &all
}

// values tells the values of all nodes, of one row, or where they stop.
func (t task) values(r int) ([]api.Matrix, api.Fault) {
	x, _ := tensor.CutRows(t.set.X, r, r+1)
	y, _ := tensor.CutRows(t.set.Y, r, r+1)
	return eval.Run(t.plan.Tape, []api.Matrix{x, y}, t.params)
}

// row reckons one row.
func (t task) row(r int) told {
	values, f := t.values(r)
	if f.Err != api.OK {
		return stopped(api.InValue, r, f)
	}
	adjoints, f := reverse.Run(t.plan.Tape, values, t.plan.Loss, t.seed)
	if f.Err != api.OK {
		return stopped(api.InAdjoint, r, f)
	}
	grads := make([]api.Matrix, len(t.net.params))
	for i, node := range t.net.params {
		grads[i] = adjoints[node]
	}
	return told{loss: values[t.plan.Loss].Bits[0], grads: grads}
}
