package bound

import (
	"pupil/api"
	"pupil/sure"
)

// mixture is a rule of rows of so many columns: each element has its own so many times, less its share of its row's sum, in which each element has its weight. On the way back shares and weights change places.
type mixture struct {
	cols               int
	own, share, weight []api.Num
}

func (m mixture) turned() mixture {
	m.share, m.weight = m.weight, m.share
	return m
}

// sums tells what comes of spans, ahead of the rounding. The terms of a row are as many as its elements times themselves, but only those of an element with itself meet: the others go together, as the row's sum without that element.
func (m mixture) sums(spans []api.Span, w int) []ends {
	list := make([]ends, len(spans))
	for from := 0; from < len(spans); from += m.cols {
		var row ends
		for i := from; i < from+m.cols; i++ {
			row = row.plus(endsOf(spans[i], w).times(m.weight[i]))
		}
		for i := from; i < from+m.cols; i++ {
			list[i] = m.sum(i, endsOf(spans[i], w), row)
		}
	}
	return list
}

// sum tells that of one element.
func (m mixture) sum(i int, itself, row ends) ends {
	less := sure.Neg(m.share[i])
	x := sumOf(1)
	x.add(spot{0, i}, m.own[i])
	x.add(spot{0, i}, sure.Mul(less, m.weight[i]))
	others := row.without(itself.times(m.weight[i]))
	return others.times(less).plus(itself.times(x.terms[spot{0, i}]))
}
