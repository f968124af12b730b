package disk_test

import (
	"bytes"
	"fmt"
	"slices"
	"testing"

	"pupil/api"
	"pupil/disk"
)

// TestP2401Numbers: files and bytes that can be, and that can't, each alone and both.
func TestP2401Numbers(t *testing.T) {
	for _, f := range slices.Concat(ends, []int{-2, -1, 0, 1, 2, 32, 63, 64, 65, 1 << 22}) {
		for _, b := range slices.Concat(ends, []int{-2, -1, 0, 1, 2, 64, 65, 1<<22 - 1, 1 << 22, 1<<22 + 1}) {
			d, e := disk.New(f, b)
			want := api.OK
			if f < 1 || f > 64 || b < 0 || b > 4194304 {
				want = api.ErrArg
			}
			if e != want || (d == nil) != (want != api.OK) {
				t.Errorf("New(%d, %d): %v, want %v", f, b, e, want)
			}
			if d != nil {
				wantFree(t, "just made", d, f, b)
			}
		}
	}
}

// TestP2401Fresh: what each call answers of a disk that was just made.
func TestP2401Fresh(t *testing.T) {
	for _, size := range [][2]int{{1, 0}, {1, 1}, {3, 10}, {64, 1 << 22}} {
		fresh := func() *disk.Disk { return made(t, size[0], size[1]) }
		d := fresh()
		if !d.On() || len(d.List()) != 0 || len(d.Pending()) != 0 {
			t.Errorf("%v: %s", size, look(d))
		}
		wantFree(t, "just made", d, size[0], size[1])
		if b, e := d.Read("a"); len(b) != 0 || e != api.ErrFile {
			t.Errorf("Read: %q, %v", b, e)
		}
		for _, line := range []string{"F a", "R a b", "R a a", "D a"} {
			wantStill(t, line, d, api.ErrFile, func() api.Errno { return tell(d, line) })
		}
		before := look(d)
		d.Crash([]int{1, 2, 3})
		play(t, d, "S; C; S; S; Z 5; C")
		if after := look(d); after != before {
			t.Errorf("%s, want %s", after, before)
		}
		for _, line := range []string{"W a", "A a"} {
			d := fresh()
			play(t, d, line)
			wantFiles(t, line, d, "a:")
			wantFree(t, line, d, size[0]-1, size[1])
		}
		// No fuse.
		d = fresh()
		for range 5000 {
			if e := d.Sync(); e != api.OK {
				t.Fatalf("Sync: %v", e)
			}
		}
	}
}

// TestP2401Room: as many names, and bytes, as there is room for.
func TestP2401Room(t *testing.T) {
	for _, n := range []int{1, 2, 63, 64} {
		d := made(t, n, 1<<22)
		part := make([]byte, 1<<22/64)
		for i := range n {
			if e := d.Write(fmt.Sprint("f", i), part); e != api.OK {
				t.Fatalf("Write %d of %d: %v", i, n, e)
			}
		}
		wantFree(t, "all names", d, 0, 1<<22-n*len(part))
		wantStill(t, "one more", d, api.ErrFull, func() api.Errno { return d.Write("one-more", nil) })
	}
	d := made(t, 2, 1<<22)
	great := bytes.Repeat([]byte("bits"), 1<<20)
	if e := d.Append("a", great); e != api.OK {
		t.Errorf("Append: %v", e)
	}
	if b, e := d.Read("a"); e != api.OK || !bytes.Equal(b, great) {
		t.Errorf("Read: %d, %v", len(b), e)
	}
	wantFree(t, "all bytes", d, 1, 0)
	wantError(t, "one more", d.Append("a", []byte{1}), api.ErrFull)
	wantError(t, "all and one", d.Write("a", append(great, 1)), api.ErrFull)
	wantError(t, "another one", d.Write("b", []byte{1}), api.ErrFull)
	wantFree(t, "all bytes", d, 1, 0)
}

// TestNone: what is no disk of New's has no power, and none of its calls panics.
func TestNone(t *testing.T) {
	for _, d := range []*disk.Disk{nil, {}} {
		for _, line := range []string{"W a x", "A a x", "F a", "R a b", "D a", "S", "Z 0", "Z 1"} {
			wantStill(t, line, d, api.ErrOff, func() api.Errno { return tell(d, line) })
		}
		wantError(t, "a name", d.Write("", nil), api.ErrName)
		wantError(t, "a fuse", d.Fuse(-1), api.ErrArg)
		if d.On() || len(d.List()) != 0 || len(d.Pending()) != 0 {
			t.Error(look(d))
		}
		wantFree(t, "none", d, 0, 0)
		d.Crash(nil)
		d.Crash([]int{1})
	}
	// A crash brings power: to no room at all.
	d := &disk.Disk{}
	d.Crash(nil)
	wantError(t, "no room", d.Write("a", nil), api.ErrFull)
	wantError(t, "no file", d.Flush("a"), api.ErrFile)
	wantError(t, "nothing pending", d.Sync(), api.OK)
}
