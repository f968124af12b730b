package train

import (
	"pupil/acc"
	"pupil/api"
	"pupil/part"
)

// outcome tells the mean of some rows' losses, and what comes out of each.
func outcome(p api.Plan, params []api.Matrix, s api.Set, rows []int) (int, []api.Matrix, error) {
	losses, outs, where, e := part.Ends(p, params, s, rows)
	if e != api.OK {
		return 0, nil, refused(where, e)
	}
	sum, _ := acc.Total(losses.Bits, losses.Width)
	loss, err := mean(sum, len(rows), losses.Width, p.Loss)
	if err != nil {
		return 0, nil, err
	}
	return loss, outs, nil
}

// mean tells the count-th part of a sum of losses, which are a node's.
func mean(sum api.Acc, count, width, node int) (int, error) {
	loss, _ := acc.Mean(sum, count, width)
	if !isFinite(loss, width) {
		return 0, refused(api.Where{Kind: api.InLoss, Node: node}, api.ErrInf)
	}
	return loss, nil
}
