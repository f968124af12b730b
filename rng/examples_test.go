package rng_test

import (
	"slices"
	"testing"

	"pupil/api"
	"pupil/rng"
)

// TestExamples: the chapter's table, line by line, wherever the draw stands.
func TestExamples(t *testing.T) {
	for _, d := range draws() {
		v, next, e := rng.Below(d, 1)
		if v != 0 || next != behind(d, 1) || e != api.OK {
			t.Errorf("Below(%v, 1): %d, %v, %v", d, v, next, e)
		}
		v, next, e = rng.Below(d, 0)
		refused(t, zeros(v), next, e, api.ErrArg, "Below", d, 0)
		list, next, e := rng.Shuffle(d, -1)
		refused(t, list, next, e, api.ErrArg, "Shuffle", d, -1)
		list, next, e = rng.Shuffle(d, 65537)
		refused(t, list, next, e, api.ErrLong, "Shuffle", d, 65537)
		list, next, e = rng.Pick(d, 3, 4)
		refused(t, list, next, e, api.ErrArg, "Pick", d, 3, 4)
		v, next, e = rng.Uniform(d, 16)
		refused(t, zeros(v), next, e, api.ErrWidth, "Uniform", d, 16)
		list, next, e = rng.Shuffle(d, 0)
		if len(list) != 0 || next != d || e != api.OK {
			t.Errorf("Shuffle(%v, 0): %v, %v, %v", d, list, next, e)
		}
		list, next, e = rng.Shuffle(d, 1)
		if !slices.Equal(list, []int{0}) || next != d || e != api.OK {
			t.Errorf("Shuffle(%v, 1): %v, %v, %v", d, list, next, e)
		}
		list, _, e = rng.Pick(d, 5, 5)
		if !slices.Equal(list, []int{0, 1, 2, 3, 4}) || e != api.OK {
			t.Errorf("Pick(%v, 5, 5): %v, %v", d, list, e)
		}
	}
}

// zeros tells what a number beside an error is other than nought.
func zeros(v int) []int {
	if v == 0 {
		return nil
	}
	return []int{v}
}
