package store_test

import (
	"fmt"
	"slices"
	"strings"
	"testing"

	"pupil/api"
	"pupil/disk"
	"pupil/store"
)

// TestP2502Arguments: what n and b must be; what is refused for them leaves the disk as it was, without power too.
func TestP2502Arguments(t *testing.T) {
	great := make([]byte, api.MaxDisk+1)
	fits := great[:api.MaxDisk-frame-3-frame]
	for _, off := range []bool{false, true} {
		for _, n := range []int{lowest, lowest + 1, -1 << 40, -1 << 32, -2, -1, 0, 1, 1<<40 - 1, 1 << 40, 1<<40 + 1, 1 << 41, 1<<40 + 1<<32, highest - 1, highest} {
			for _, b := range [][]byte{nil, {}, []byte("b"), fits, great[:api.MaxDisk], great} {
				d := made(t, 3, api.MaxDisk)
				lay(t, d, "ck-7", whole(7, "old"))
				want := api.OK
				switch {
				case n < 0 || n > api.MaxStep:
					want = api.ErrArg
				case len(b) > api.MaxDisk:
					want = api.ErrLong
				case off:
					want = api.ErrOff
				case len(b) > len(fits):
					want = api.ErrFull
				}
				what := fmt.Sprintf("Save(%d, %d bytes), off %v", n, len(b), off)
				if off {
					d.Fuse(0)
				}
				if want == api.OK {
					wantError(t, what, store.Save(d, n, b), want)
					wantFile(t, what, d, fmt.Sprint("ck-", n), whole(n, string(b)))
				} else {
					wantStill(t, what, d, func() { wantError(t, what, store.Save(d, n, b), want) })
				}
			}
		}
	}
}

// TestP2502Nothing: no disk, and one that was not made by New, are as ones without power.
func TestP2502Nothing(t *testing.T) {
	for _, d := range []*disk.Disk{nil, {}} {
		wantError(t, "Save", store.Save(d, 1, []byte("b")), api.ErrOff)
		wantError(t, "Save", store.Save(d, -1, nil), api.ErrArg)
		wantError(t, "Save", store.Save(d, 1, make([]byte, api.MaxDisk+1)), api.ErrLong)
		wantLoad(t, "none", d, 0, "", api.ErrOff)
		wantList(t, "none", d)
		wantError(t, "Clean", store.Clean(d, 1), api.ErrOff)
		wantError(t, "Clean", store.Clean(d, 0), api.ErrArg)
	}
}

// begin is what there is on a disk, fast, ahead of a Save.
type begin map[string][]byte

var (
	junk   = []byte("junk that is longer than the file of a checkpoint")
	begins = map[string]begin{
		"empty":           {},
		"new":             {"new": whole(3, "another one")},
		"junk":            {"new": junk},
		"none in new":     {"new": nil},
		"new of its own":  {"new": whole(9, "another one"), "ck-8": whole(8, "")},
		"same":            {"ck-9": whole(9, "old")},
		"same, new":       {"ck-9": whole(9, "older"), "new": whole(9, "old")},
		"same, junk":      {"ck-9": junk, "new": junk},
		"others":          {"ck-10": whole(10, "greater"), "other": junk, "ck-09": junk},
		"others and junk": {"ck-5": whole(5, "less"), "ck-6": junk, "new": junk},
	}
)

// laid makes a disk that begins so.
func (x begin) laid(t *testing.T) *disk.Disk {
	t.Helper()
	d := roomyDisk(t)
	for name, b := range x {
		lay(t, d, name, b)
	}
	return d
}

// with tells the same, but of a file's bytes.
func (x begin) with(name string, b []byte) begin {
	y := begin{name: b}
	for n, c := range x {
		if n != name {
			y[n] = c
		}
	}
	return y
}

// without tells the same, but for a file.
func (x begin) without(name string) begin {
	y := x.with(name, nil)
	delete(y, name)
	return y
}

// want wants a disk to have just these files.
func (x begin) want(t *testing.T, what string, d *disk.Disk) {
	t.Helper()
	if len(d.List()) != len(x) {
		t.Errorf("%s: %q, want %d files", what, d.List(), len(x))
	}
	for name, b := range x {
		wantFile(t, what, d, name, b)
	}
}

// TestP2502Steps: which works are pending, and which files there are behind a Crash, behind a Save whose power fails behind each of its steps; and how many there are.
func TestP2502Steps(t *testing.T) {
	f := whole(9, "q")
	for what, x := range begins {
		_, drafted := x["new"]
		made, renamed := "3 >new 0, ", "3 >new 0, "
		if drafted {
			made, renamed = "", ""
		}
		for fuse, want := range []string{"", made + "1 new> 21", strings.TrimSuffix(made, ", "), renamed + "3 new>ck-9 0", "", ""} {
			what := fmt.Sprintf("%s, fuse %d", what, fuse)
			d := x.laid(t)
			wantError(t, what, d.Fuse(fuse), api.OK)
			e := api.ErrOff
			if fuse >= 4 {
				e = api.OK
			}
			wantError(t, what, store.Save(d, 9, []byte("q")), e)
			wantPending(t, what, d, want)
			if d.On() != (fuse == 5) {
				t.Errorf("%s: on %v", what, d.On())
			}
			if fuse == 5 {
				continue
			}
			wantError(t, what+", again", store.Save(d, 9, []byte("r")), api.ErrOff)
			wantPending(t, what+", again", d, want)
			works := len(d.Pending())
			each([]int{-1, 0, 1, 3, 20, 21, 99}, works, func(keep []int) {
				d := x.laid(t)
				d.Fuse(fuse)
				store.Save(d, 9, []byte("q"))
				d.Crash(keep)
				behind(x, f, fuse, keep).want(t, fmt.Sprintf("%s, kept %v", what, keep), d)
			})
		}
	}
}

// behind tells, by what chapter 24 says of a Crash, the files behind a Save of 9 that was cut off.
func behind(x begin, f []byte, fuse int, keep []int) begin {
	_, there := x["new"]
	if !there && fuse >= 1 && fuse <= 3 { // The first work is that of the name "new".
		there = keep[0] > 0
		keep = keep[1:]
	}
	draft := func(b []byte) begin {
		if !there {
			return x
		}
		return x.with("new", b)
	}
	switch {
	case fuse == 1 && keep[0] > 0:
		return draft(f[:min(keep[0], len(f))])
	case fuse == 1:
		return draft(x["new"])
	case fuse == 2, fuse == 3 && keep[0] <= 0:
		return draft(f)
	case fuse >= 3:
		return x.without("new").with("ck-9", f)
	}
	return x
}

// TestP2502Done: what a Save that answered OK leaves: its file, no "new", all others as they were, and nothing pending.
func TestP2502Done(t *testing.T) {
	for what, x := range begins {
		d := x.laid(t)
		wantError(t, what, store.Save(d, 9, []byte("q")), api.OK)
		x.without("new").with("ck-9", whole(9, "q")).want(t, what, d)
		wantPending(t, what, d, "")
		d.Crash([]int{0, 0, 0, 0})
		x.without("new").with("ck-9", whole(9, "q")).want(t, what, d)
	}
}

// TestP2502Sync: its Sync makes all names fast that are pending, its Flush no other file's bytes.
func TestP2502Sync(t *testing.T) {
	d := roomyDisk(t)
	d.Write("other", []byte("xyz"))
	wantError(t, "Save", store.Save(d, 1, nil), api.OK)
	wantPending(t, "Save", d, "1 other> 3")
	d.Append("new", []byte("w"))
	d.Rename("other", "another")
	wantError(t, "Save", store.Save(d, 1, []byte("b")), api.OK)
	wantPending(t, "Save", d, "1 other> 3")
	wantNames(t, "Save", d, "another ck-1")
	d.Crash(nil)
	begin{"another": nil, "ck-1": whole(1, "b")}.want(t, "Save", d)
}

// full is a Save for which a disk has too little room, or just enough.
type full struct {
	files, bytes int
	there        begin
	n            int
	b            string
	want         api.Errno
}

// TestP2502Full: names and bytes are both needed for "new", beside all that there is; what is refused for them leaves all as it was.
func TestP2502Full(t *testing.T) {
	one := begin{"ck-1": whole(1, "x")}
	ten := []byte("ten bytes.")
	for i, x := range []full{
		{1, 20, nil, 1, "", api.OK},
		{1, 19, nil, 1, "", api.ErrFull},
		{1, 0, nil, 1, "", api.ErrFull},
		{1, 20, nil, 1, "x", api.ErrFull},
		{1, 21, nil, 1, "x", api.OK},
		{1, 1000, one, 2, "", api.ErrFull},
		{1, 1000, one, 1, "", api.ErrFull},
		{2, 1000, one, 1, "y", api.OK},
		{2, 1000, one, 2, "y", api.OK},
		{2, 42, one, 1, "y", api.OK},
		{2, 41, one, 1, "y", api.ErrFull},
		{2, 41, one, 1, "", api.OK},
		{2, 41, one, 2, "", api.OK},
		{2, 40, one, 2, "", api.ErrFull},
		{1, 21, begin{"new": ten}, 1, "x", api.OK},
		{1, 20, begin{"new": ten}, 1, "x", api.ErrFull},
		{1, 21, begin{"other": ten}, 1, "", api.ErrFull},
		{2, 30, begin{"other": ten}, 1, "", api.OK},
		{2, 29, begin{"other": ten}, 1, "", api.ErrFull},
		{2, 30, begin{"other": ten, "new": ten}, 1, "", api.OK},
		{2, 30, begin{"other": ten, "new": whole(1, "")}, 1, "x", api.ErrFull},
		{3, 1000, begin{"a": nil, "b": nil, "ck-1": nil}, 1, "x", api.ErrFull},
		{3, 1000, begin{"a": nil, "b": nil, "new": nil}, 1, "x", api.OK},
		{3, 61, begin{"new": whole(1, ""), "ck-1": whole(1, ""), "ck-2": whole(2, "y")}, 1, "", api.OK},
		{3, 61, begin{"new": whole(1, ""), "ck-1": whole(1, ""), "ck-2": whole(2, "y")}, 1, "x", api.ErrFull},
	} {
		what := fmt.Sprintf("%d: %+v", i, x)
		d := made(t, x.files, x.bytes)
		for name, b := range x.there {
			lay(t, d, name, b)
		}
		if x.want == api.OK {
			wantError(t, what, store.Save(d, x.n, []byte(x.b)), api.OK)
			x.there.without("new").with(fmt.Sprint("ck-", x.n), whole(x.n, x.b)).want(t, what, d)
			continue
		}
		wantStill(t, what, d, func() { wantError(t, what, store.Save(d, x.n, []byte(x.b)), x.want) })
		x.there.want(t, what, d)
		d.Fuse(0)
		wantError(t, what, store.Save(d, x.n, []byte(x.b)), api.ErrOff)
	}
}

// TestP2502Greatest: b of as many bytes as there can be: no disk has room for MaxDisk, one for all that is left of them.
func TestP2502Greatest(t *testing.T) {
	b := []byte(strings.Repeat("greatest", api.MaxDisk/8))
	d := made(t, 2, api.MaxDisk)
	wantError(t, "all", store.Save(d, 1, b), api.ErrFull)
	wantError(t, "one too many", store.Save(d, 1, b[frame-1:]), api.ErrFull)
	wantNames(t, "refused", d, "")
	wantError(t, "just enough", store.Save(d, 1, b[frame:]), api.OK)
	if n, c, e := store.Load(d); n != 1 || !slices.Equal(c, b[frame:]) || e != api.OK {
		t.Errorf("Load tells %d, %d bytes, %v", n, len(c), e)
	}
	wantError(t, "no room", store.Save(d, 2, nil), api.ErrFull)
	wantList(t, "no room", d, 1)
}

// TestP2502Again: a number that is saved again has the later bytes.
func TestP2502Again(t *testing.T) {
	d := roomyDisk(t)
	for i, b := range []string{"first", "", "third, longer than all others", "x"} {
		wantError(t, "Save", store.Save(d, 4, []byte(b)), api.OK)
		wantLoad(t, fmt.Sprint(i), d, 4, b, api.OK)
		wantNames(t, fmt.Sprint(i), d, "ck-4")
	}
	save(t, d, 3)
	wantLoad(t, "less", d, 4, "x", api.OK)
	wantNames(t, "less", d, "ck-3 ck-4")
}
