package part

import (
	"pupil/acc"
	"pupil/api"
	"pupil/tensor"
)

// inForm tells whether a part is in form.
func inForm(x api.Part) bool {
	if len(x.Rows) == 0 || !rise(x.Rows, api.MaxRows) || !acc.Valid(x.Loss) {
		return false
	}
	for _, sums := range x.Grads {
		for _, a := range sums {
			if !acc.Valid(a) {
				return false
			}
		}
	}
	return true
}

// rise tells whether numbers rise, from 0 on at the least, and stay below a bound.
func rise(numbers []int, bound int) bool {
	last := -1
	for _, n := range numbers {
		if n <= last || n >= bound {
			return false
		}
		last = n
	}
	return true
}

// asLong tells whether there are as many sums in one list as in another.
func asLong(a, b []api.Acc) bool { return len(a) == len(b) }

// merged adds up, one by one, the sums of two lists that are as long.
func merged(a, b []api.Acc) ([]api.Acc, api.Errno) {
	sums := make([]api.Acc, len(a))
	for i := range sums {
		s, e := acc.Merge(a[i], b[i])
		if e != api.OK {
			return nil, e
		}
		sums[i] = s
	}
	return sums, api.OK
}

// means tells a matrix of a shape whose elements are the count-th parts of sums, or the first one of them that is not finite.
func means(sums []api.Acc, count int, s api.Shape) (api.Matrix, int, api.Errno) {
	m, _ := tensor.Zero(s.Rows, s.Cols, s.Width)
	for i, a := range sums {
		m.Bits[i], _ = acc.Mean(a, count, s.Width) // The sums are in form, and there is a row.
	}
	if at, e := tensor.Finite(m); e != api.OK {
		return api.Matrix{}, at, e
	}
	return m, 0, api.OK
}
