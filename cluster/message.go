package cluster

import (
	"slices"

	"pupil/apart"
	"pupil/api"
)

// message is what is under way: work for a worker, or a worker's answer. Its lists may be others' too: nobody writes to them.
type message interface {
	// mail tells it in memory of its own.
	mail() api.Mail
}

// desk is where the master stands, among the numbers of the workers.
const desk = -1

// work is rows of a step that a worker is to reckon, with the parameters of that step.
type work struct {
	to, step int
	rows     []int
	params   []api.Matrix
}

func (w work) mail() api.Mail {
	return api.Mail{Kind: api.MailWork, From: desk, To: w.to, Step: w.step, Rows: slices.Clone(w.rows), Params: apart.Matrices(w.params)}
}

// answer is what a worker makes of work: a part, or where the least of its rows stops.
type answer struct {
	from, step int
	rows       []int
	part       api.Part
	where      api.Where
	err        api.Errno
}

func (a answer) mail() api.Mail {
	return api.Mail{Kind: api.MailPart, From: a.from, To: desk, Step: a.step, Rows: slices.Clone(a.rows), Part: apart.Part(a.part), Where: a.where, Err: a.err}
}
