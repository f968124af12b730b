package part

import (
	"sync"

	"pupil/acc"
	"pupil/api"
)

// told is what one row tells: its loss and its gradients, or where it stops, and why.
type told struct {
	loss  int
	grads []api.Matrix
	where api.Where
	err   api.Errno
}

// stopped tells that a row stops.
func stopped(kind, row int, f api.Fault) told {
	return told{where: api.Where{Kind: kind, Row: row, Node: f.Node, At: f.At}, err: f.Err}
}

// tally is what rows have told so far. They come in any order: what is added up exactly does not hang on it, and of those that stop the least one is kept.
type tally struct {
	lock  sync.Mutex
	rows  []told
	where api.Where
	err   api.Errno
}

// put puts what a row tells to the rest.
func (a *tally) put(row told) {
	a.lock.Lock()
	defer a.lock.Unlock()
	switch {
	case row.err == api.OK:
		a.rows = append(a.rows, row)
	case a.err == api.OK || row.where.Row < a.where.Row:
		a.where, a.err = row.where, row.err
	}
}

// loss adds up the rows' losses, of a width.
func (a *tally) loss(width int) api.Acc {
	return a.sum(width, func(row told) int { return row.loss })
}

// grads adds up the rows' gradients, element by element. All rows tell matrices of the same shapes.
func (a *tally) grads() [][]api.Acc {
	first := a.rows[0].grads
	sums := make([][]api.Acc, len(first))
	for i, m := range first {
		sums[i] = make([]api.Acc, len(m.Bits))
		for k := range sums[i] {
			sums[i][k] = a.sum(m.Width, func(row told) int { return row.grads[i].Bits[k] })
		}
	}
	return sums
}

// sum adds up a float that is picked from each row.
func (a *tally) sum(width int, pick func(row told) int) api.Acc {
	list := make([]int, len(a.rows))
	for i, row := range a.rows {
		list[i] = pick(row)
	}
	total, _ := acc.Total(list, width) // A batch has far fewer rows than a sum may have floats.
	return total
}
