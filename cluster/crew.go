package cluster

import (
	"pupil/api"
	"pupil/part"
)

// job is what is trained. The master and each worker know it; nobody writes to it.
type job struct {
	plan api.Plan
	set  api.Set
}

// crew is the workers, by their numbers: which of them are up.
type crew struct {
	job
	up []bool
}

// employs tells whether there is such a worker.
func (w *crew) employs(worker int) bool { return worker >= 0 && worker < len(w.up) }

// ready tells the numbers of those that are up, rising.
func (w *crew) ready() []int {
	var l []int
	for i, up := range w.up {
		if up {
			l = append(l, i)
		}
	}
	return l
}

// reckon does a worker's work.
func (w *crew) reckon(k work) answer {
	x, where, e := part.Of(w.plan, k.params, w.set, k.rows)
	return answer{from: k.to, step: k.step, rows: k.rows, part: x, where: where, err: e}
}
