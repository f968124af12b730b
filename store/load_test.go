package store_test

import (
	"fmt"
	"math/rand"
	"slices"
	"testing"

	"pupil/api"
	"pupil/disk"
	"pupil/store"
)

// TestP2503Load: the greatest whole one, by its number and not by its name, its bytes or when it was saved; those that are not whole, below and above it, are passed over.
func TestP2503Load(t *testing.T) {
	for what, x := range map[string]struct {
		there begin
		n     int
		list  []int
	}{
		"nothing":            {nil, -1, nil},
		"no checkpoint":      {begin{"other": junk, "new": whole(5, "5"), "ck-": whole(0, "0"), "ck-05": whole(5, "5")}, -1, nil},
		"none whole":         {begin{"ck-5": junk, "ck-6": nil, "ck-7": whole(5, "5")}, -1, nil},
		"one":                {begin{"ck-5": whole(5, "5")}, 5, []int{5}},
		"0":                  {begin{"ck-0": whole(0, "0")}, 0, []int{0}},
		"0 and new":          {begin{"ck-0": whole(0, "0"), "new": whole(5, "5")}, 0, []int{0}},
		"more digits":        {begin{"ck-9": whole(9, "9"), "ck-10": whole(10, "10")}, 10, []int{9, 10}},
		"many digits":        {begin{"ck-9": whole(9, "9"), "ck-10": whole(10, "10"), "ck-100": whole(100, "100"), "ck-99": whole(99, "99"), "ck-1": whole(1, "1"), "ck-0": whole(0, "0")}, 100, []int{0, 1, 9, 10, 99, 100}},
		"the ends":           {begin{"ck-0": whole(0, "0"), "ck-1099511627776": whole(1<<40, "1099511627776"), "ck-9": whole(9, "9")}, 1 << 40, []int{0, 9, 1 << 40}},
		"one more":           {begin{"ck-1099511627777": whole(1<<40+1, "b"), "ck-1099511627775": whole(1<<40-1, "1099511627775")}, 1<<40 - 1, []int{1<<40 - 1}},
		"above not whole":    {begin{"ck-5": whole(5, "5"), "ck-6": whole(6, "6")[:20], "ck-7": junk}, 5, []int{5}},
		"below not whole":    {begin{"ck-5": whole(5, "5"), "ck-4": junk, "ck-3": nil}, 5, []int{5}},
		"between":            {begin{"ck-5": whole(5, "5"), "ck-6": junk, "ck-8": whole(8, "8"), "ck-10": whole(8, "8"), "ck-7": whole(7, "7")}, 8, []int{5, 7, 8}},
		"others, more bytes": {begin{"ck-5": whole(5, "5"), "a": junk, "zz": junk, "ck-5.": whole(5, "5"), "new": junk}, 5, []int{5}},
	} {
		d := x.there.laid(t)
		wantStill(t, what, d, func() {
			if x.n < 0 {
				wantLoad(t, what, d, 0, "", api.ErrNone)
			} else {
				wantLoad(t, what, d, x.n, fmt.Sprint(x.n), api.OK)
			}
			wantList(t, what, d, x.list...)
		})
		d.Fuse(0)
		wantStill(t, what, d, func() {
			wantLoad(t, what+", off", d, 0, "", api.ErrOff)
			wantList(t, what+", off", d)
		})
		d.Crash(nil)
		wantList(t, what+", on", d, x.list...)
	}
}

// TestP2503Bytes: the bytes as they were handed in: none, one, many, and ones that look like a file's.
func TestP2503Bytes(t *testing.T) {
	for _, b := range []string{"", "x", "\x00", "\x00\x00\x00\x00", "pck\x01", string(whole(5, "b")), string(make([]byte, 4096)), "\xff\xfe not UTF-8 \xc3"} {
		d := roomyDisk(t)
		wantError(t, "Save", store.Save(d, 5, []byte(b)), api.OK)
		wantLoad(t, fmt.Sprintf("%.30q", b), d, 5, b, api.OK)
	}
}

// TestP2503Fast: Load and List see the files as they are, fast or not.
func TestP2503Fast(t *testing.T) {
	d := roomyDisk(t)
	d.Write("ck-5", whole(5, "b")[:9])
	d.Append("ck-5", whole(5, "b")[9:])
	wantLoad(t, "not fast", d, 5, "b", api.OK)
	wantList(t, "not fast", d, 5)
	d.Crash([]int{1, 9, 11})
	wantLoad(t, "the last byte is lost", d, 0, "", api.ErrNone)
	d.Append("ck-5", whole(5, "b")[20:])
	d.Rename("ck-5", "ck-6")
	wantList(t, "of another name", d)
	d.Rename("ck-6", "ck-5")
	wantList(t, "of its name", d, 5)
	d.Remove("ck-5")
	wantList(t, "removed", d)
}

// TestP2503Crash: what is whole behind a Crash with any keep, of files that were being written on the disk itself.
func TestP2503Crash(t *testing.T) {
	f, g := whole(5, "five"), whole(6, "six")
	script := func() *disk.Disk {
		d := roomyDisk(t)
		save(t, d, 4)
		d.Write("ck-5", f[:10])
		d.Append("ck-5", f[10:])
		d.Write("ck-6", g)
		d.Remove("ck-4")
		return d
	}
	works := len(script().Pending()) // Name, bytes, bytes; name, bytes; removal.
	if works != 6 {
		t.Fatal(works)
	}
	each([]int{0, 5, 10, 14, 23, 24}, works, func(keep []int) {
		d := script()
		d.Crash(keep)
		var want []int
		if keep[5] == 0 {
			want = append(want, 4)
		}
		if keep[0] > 0 && keep[1] >= 10 && keep[2] >= 14 {
			want = append(want, 5)
		}
		if keep[3] > 0 && keep[4] >= 23 {
			want = append(want, 6)
		}
		wantList(t, fmt.Sprint(keep), d, want...)
		switch {
		case len(want) == 0:
			wantLoad(t, fmt.Sprint(keep), d, 0, "", api.ErrNone)
		default:
			last := want[len(want)-1]
			wantLoad(t, fmt.Sprint(keep), d, last, map[int]string{4: "4", 5: "five", 6: "six"}[last], api.OK)
		}
	})
}

// TestP2504List: the numbers rise, each of them once, whatever their digits and the order in which they were saved; as many as a disk can have.
func TestP2504List(t *testing.T) {
	r := rand.New(rand.NewSource(2504))
	for range 40 {
		d := made(t, 64, 10000)
		var want []int
		for range 1 + r.Intn(63) {
			n := r.Intn(1 << r.Intn(41))
			save(t, d, n)
			want = append(want, n)
		}
		slices.Sort(want)
		want = slices.Compact(want)
		wantList(t, "List", d, want...)
		last := want[len(want)-1]
		wantLoad(t, "List", d, last, fmt.Sprint(last), api.OK)
		if len(want) != len(d.List()) {
			t.Errorf("%v of %v", want, d.List())
		}
	}
	d := made(t, 64, 10000)
	var all []int
	for n := range 64 {
		save(t, d, n)
		all = append(all, n)
	}
	wantList(t, "full", d, all...)
	wantLoad(t, "full", d, 63, "63", api.OK)
	wantError(t, "full", store.Save(d, 64, nil), api.ErrFull)
}
