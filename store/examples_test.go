package store_test

import (
	"testing"

	"pupil/api"
	"pupil/store"
)

// TestExamples: the chapter's table.
func TestExamples(t *testing.T) {
	all := []int{1, 1, 1}
	for _, keep := range [][]int{nil, {0, 0, 0}, all, {1, 0, 0}, {0, 1, 0}, {0, 0, 1}, {-1, 9, highest}} {
		d := roomyDisk(t)
		wantLoad(t, "none", d, 0, "", api.ErrNone)
		wantError(t, "Save", store.Save(d, 5, []byte("xy")), api.OK)
		wantLoad(t, "one", d, 5, "xy", api.OK)
		wantList(t, "one", d, 5)
		wantError(t, "Save", store.Save(d, 7, []byte("z")), api.OK)
		wantLoad(t, "two", d, 7, "z", api.OK)
		wantList(t, "two", d, 5, 7)
		d.Fuse(2)
		wantError(t, "Save", store.Save(d, 9, []byte("q")), api.ErrOff)
		d.Crash(keep)
		wantLoad(t, "crashed", d, 7, "z", api.OK)
		d.Fuse(3)
		wantError(t, "Save", store.Save(d, 9, []byte("q")), api.ErrOff)
		works := len(d.Pending())
		d.Crash(all[:works])
		wantLoad(t, "renamed", d, 9, "q", api.OK)
		wantError(t, "Clean", store.Clean(d, 1), api.OK)
		wantList(t, "clean", d, 9)
		wantError(t, "Save", store.Save(d, -1, []byte("x")), api.ErrArg)
		wantError(t, "Clean", store.Clean(d, 0), api.ErrArg)
	}
}
