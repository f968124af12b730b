package part_test

import (
	"runtime"
	"slices"
	"strings"
	"testing"
	"time"

	"pupil/api"
	"pupil/part"
)

// others tells the stacks of all goroutines but the one that asks.
func others() []string {
	room := make([]byte, 1<<20)
	all := strings.Split(string(room[:runtime.Stack(room, true)]), "\n\n")
	return all[1:]
}

// atWork tells whether another goroutine is still reckoning: one that has told that it is done may yet be on its way out, but no layer below is on its stack then.
func atWork() bool {
	for _, stack := range others() {
		for _, layer := range []string{"pupil/eval.", "pupil/reverse.", "pupil/kernel.", "pupil/elem.", "pupil/acc.", "pupil/tensor.", "pupil/data."} {
			if strings.Contains(stack, layer) {
				return true
			}
		}
	}
	return false
}

// left tells whether a goroutine of the package is left, some time later.
func left() bool {
	for range 200 {
		if !slices.ContainsFunc(others(), func(stack string) bool { return strings.Contains(stack, "pupil/part.") }) {
			return false
		}
		time.Sleep(5 * time.Millisecond)
	}
	return true
}

// TestP2002Ended: all goroutines have ended when Of answers: where all rows are told, where all stop, and where the first one stops at once and the others go on for long.
func TestP2002Ended(t *testing.T) {
	all := kinds(64)
	p, params := slow(40)
	fine, quick, late := all[:1], all[2:3], all[14:15]
	for _, c := range []struct {
		name string
		l    []kind
		e    api.Errno
	}{
		{"one row", fine, api.OK}, {"all are told", slices.Repeat(fine, 12), api.OK}, {"all stop at once", slices.Repeat(quick, 40), api.ErrInf}, {"all stop late", slices.Repeat(late, 12), api.ErrInf},
		{"the first one stops at once", slices.Concat(quick, slices.Repeat(fine, 20)), api.ErrInf}, {"the first one stops late", slices.Concat(late, slices.Repeat(quick, 20)), api.ErrInf},
		{"the last one stops", slices.Concat(slices.Repeat(fine, 10), quick), api.ErrInf},
	} {
		for range 3 {
			_, _, e := part.Of(p, params, rowsOf(64, c.l), upTo(len(c.l)))
			if atWork() {
				t.Errorf("%s: a goroutine is at work when Of has answered", c.name)
			}
			if e != c.e {
				t.Errorf("%s: %v", c.name, e)
			}
		}
	}
	for _, rows := range [][]int{nil, {0, 0}, {99}, make([]int, 257)} {
		part.Of(p, params, rowsOf(64, all), rows)
	}
	part.Of(p, nil, rowsOf(64, all), []int{0})
	if left() {
		t.Errorf("goroutines are left: %v", others())
	}
}
