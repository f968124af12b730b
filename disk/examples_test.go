package disk_test

import (
	"slices"
	"testing"

	"pupil/api"
	"pupil/disk"
)

// TestExamples: the chapter's table.
func TestExamples(t *testing.T) {
	d := played(t, 3, 10, "W a wxyz")
	if l := d.Pending(); !slices.Equal(l, []api.Work{{Kind: 3, To: "a"}, {Kind: 1, Name: "a", Len: 4}}) {
		t.Errorf("%v", l)
	}
	wantError(t, "Write", d.Write("b", []byte("1234567")), api.ErrFull)
	if b, e := d.Read("b"); e != api.ErrFile || len(b) != 0 {
		t.Errorf("%q, %v", b, e)
	}
	d.Crash([]int{1, 2})
	wantFiles(t, "the first two bytes", d, "a:wx")
	for _, x := range [][2]string{{"C 1 1", "a:xyz"}, {"C 1 0", "a:wx n:xyz"}, {"C 0 1", "a:xyz"}} {
		d := played(t, 3, 10, "W a wxyz; C 1 2; W n xyz; F n; R n a; "+x[0])
		wantFiles(t, x[0], d, x[1])
	}
	d = played(t, 3, 10, "W a wx; F a; S; Z 1; S")
	wantError(t, "Sync", d.Sync(), api.ErrOff)
	if b, e := d.Read("a"); e != api.ErrOff || len(b) != 0 || len(d.List()) != 0 || d.On() {
		t.Errorf("%q, %v, %v", b, e, d.List())
	}
	d.Crash(nil)
	if !d.On() {
		t.Error("no power")
	}
	wantError(t, "Write", d.Write("A", []byte("x")), api.ErrName)
	wantError(t, "Write", d.Write("", []byte("x")), api.ErrName)
	wantError(t, "Rename", d.Rename("a", "x y"), api.ErrName)
}

// TestWorks: the numbers of the kinds.
func TestWorks(t *testing.T) {
	if disk.WorkWrite != 1 || disk.WorkAppend != 2 || disk.WorkName != 3 || disk.WorkRemove != 4 {
		t.Error("another number")
	}
}
