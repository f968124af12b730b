package store_test

import (
	"fmt"
	"strings"
	"testing"

	"pupil/api"
	"pupil/store"
)

// TestP2505Arguments: keep is looked at ahead of the power; what is refused leaves the disk as it was.
func TestP2505Arguments(t *testing.T) {
	for _, off := range []bool{false, true} {
		for _, keep := range []int{lowest, lowest + 1, -1 << 32, -2, -1, 0, 1, 2, 1 << 32, highest - 1, highest} {
			d := begin{"ck-1": whole(1, ""), "ck-2": whole(2, ""), "new": junk, "ck-3": junk}.laid(t)
			d.Remove("ck-1")
			d.Write("ck-1", whole(1, ""))
			if off {
				d.Fuse(0)
			}
			what := fmt.Sprintf("Clean(%d), off %v", keep, off)
			switch {
			case keep < 1:
				wantStill(t, what, d, func() { wantError(t, what, store.Clean(d, keep), api.ErrArg) })
			case off:
				wantStill(t, what, d, func() { wantError(t, what, store.Clean(d, keep), api.ErrOff) })
			default:
				wantError(t, what, store.Clean(d, keep), api.OK)
			}
		}
	}
}

// cleaning is what there is ahead of a Clean, and what it removes, in that order.
type cleaning struct {
	there begin
	keep  int
	gone  string
}

// many are checkpoints whose names and numbers are in different orders.
var many = begin{"ck-0": whole(0, ""), "ck-9": whole(9, ""), "ck-10": whole(10, ""), "ck-100": whole(100, ""), "ck-99": whole(99, "")}

// mixed are files of all kinds.
var mixed = begin{
	"ck-9": whole(9, ""), "ck-10": whole(10, ""), "ck-11": junk, "ck-8": whole(9, ""), "ck-1099511627776": nil, "ck-2": whole(2, ""),
	"new": whole(10, ""), "ck-07": junk, "ck-": junk, "ck-1099511627777": junk, "ck-1.": whole(1, ""), "a": junk, "neww": junk, "xck-1": whole(1, ""), "zz": nil, "ck-18446744073709551617": whole(1, ""),
}

var cleanings = map[string]cleaning{
	"nothing":                 {nil, 1, ""},
	"others alone":            {begin{"a": junk, "ck-01": junk, "ck-x": nil, "ne": junk}, 1, ""},
	"one":                     {begin{"ck-5": whole(5, "")}, 1, ""},
	"one, keep more":          {begin{"ck-5": whole(5, "")}, 2, ""},
	"one, keep most":          {begin{"ck-5": whole(5, "")}, highest, ""},
	"new":                     {begin{"new": junk}, 1, "new"},
	"new of no bytes":         {begin{"new": nil}, 9, "new"},
	"new that is whole":       {begin{"new": whole(5, ""), "ck-5": whole(5, "")}, 1, "new"},
	"not whole":               {begin{"ck-5": junk}, 1, "ck-5"},
	"none whole, keep most":   {begin{"ck-5": junk, "ck-6": nil, "ck-0": whole(1, "")}, highest, "ck-0 ck-5 ck-6"},
	"two, keep one":           {begin{"ck-9": whole(9, ""), "ck-10": whole(10, "")}, 1, "ck-9"},
	"two, keep two":           {begin{"ck-9": whole(9, ""), "ck-10": whole(10, "")}, 2, ""},
	"not whole is not kept":   {begin{"ck-9": whole(9, ""), "ck-10": junk}, 1, "ck-10"},
	"not whole isn't counted": {begin{"ck-9": whole(9, ""), "ck-10": junk, "ck-11": junk, "ck-8": whole(8, "")}, 2, "ck-10 ck-11"},
	"many, keep 1":            {many, 1, "ck-0 ck-10 ck-9 ck-99"},
	"many, keep 2":            {many, 2, "ck-0 ck-10 ck-9"},
	"many, keep 3":            {many, 3, "ck-0 ck-9"},
	"many, keep 4":            {many, 4, "ck-0"},
	"many, keep 5":            {many, 5, ""},
	"many, keep 6":            {many, 6, ""},
	"mixed, keep 1":           {mixed, 1, "ck-1099511627776 ck-11 ck-2 ck-8 ck-9 new"},
	"mixed, keep 2":           {mixed, 2, "ck-1099511627776 ck-11 ck-2 ck-8 new"},
	"mixed, keep 3":           {mixed, 3, "ck-1099511627776 ck-11 ck-8 new"},
	"mixed, keep most":        {mixed, highest, "ck-1099511627776 ck-11 ck-8 new"},
}

// left tells the files that stay behind the removal of some.
func (x begin) left(gone []string) begin {
	for _, name := range gone {
		x = x.without(name)
	}
	return x
}

// TestP2505Clean: what goes and what stays; all of it is fast then; Clean behind Clean finds nothing.
func TestP2505Clean(t *testing.T) {
	for what, x := range cleanings {
		d := x.there.laid(t)
		gone := strings.Fields(x.gone)
		wantError(t, what, store.Clean(d, x.keep), api.OK)
		x.there.left(gone).want(t, what, d)
		wantPending(t, what, d, "")
		wantStill(t, what+", again", d, func() { wantError(t, what, store.Clean(d, x.keep), api.OK) })
		d.Crash(nil)
		x.there.left(gone).want(t, what+", crashed", d)
	}
}

// TestP2505Order: a fuse ends it behind each Remove, and ahead of the Sync: what is pending tells the order; of these removals just those go that are kept.
func TestP2505Order(t *testing.T) {
	for what, x := range cleanings {
		gone := strings.Fields(x.gone)
		if len(gone) == 0 {
			continue
		}
		for fuse := range len(gone) + 3 {
			what := fmt.Sprintf("%s, fuse %d", what, fuse)
			d := x.there.laid(t)
			d.Fuse(fuse)
			done := min(fuse, len(gone))
			if fuse > len(gone) {
				wantError(t, what, store.Clean(d, x.keep), api.OK)
				wantPending(t, what, d, "")
				if d.On() != (fuse == len(gone)+2) {
					t.Errorf("%s: on %v", what, d.On())
				}
				d.Crash(nil)
				x.there.left(gone).want(t, what, d)
				continue
			}
			wantError(t, what, store.Clean(d, x.keep), api.ErrOff)
			var want []string
			for _, name := range gone[:done] {
				want = append(want, "4 "+name+"> 0")
			}
			wantPending(t, what, d, strings.Join(want, ", "))
			for bits := range 1 << done {
				d := x.there.laid(t)
				d.Fuse(fuse)
				store.Clean(d, x.keep)
				var keep []int
				var lost []string
				for i := range done {
					keep = append(keep, bits>>i&1)
					if bits>>i&1 == 1 {
						lost = append(lost, gone[i])
					}
				}
				d.Crash(keep)
				x.there.left(lost).want(t, fmt.Sprint(what, keep), d)
			}
		}
	}
}

// TestP2505Nothing: with nothing to remove there is no Sync: works of names stay pending, and nothing is taken of a fuse.
func TestP2505Nothing(t *testing.T) {
	d := begin{"ck-5": whole(5, ""), "ck-6": whole(6, "")}.laid(t)
	d.Write("other", []byte("xyz"))
	d.Rename("ck-5", "ck-05")
	for _, keep := range []int{1, 2, highest} {
		wantStill(t, "nothing", d, func() { wantError(t, "nothing", store.Clean(d, keep), api.OK) })
	}
	wantPending(t, "nothing", d, "3 >other 0, 1 other> 3, 3 ck-5>ck-05 0")
	d.Write("new", nil)
	wantError(t, "new", store.Clean(d, 1), api.OK)
	wantPending(t, "new", d, "1 other> 3, 1 new> 0")
	d.Crash(nil)
	begin{"ck-05": whole(5, ""), "ck-6": whole(6, ""), "other": nil}.want(t, "new", d)
}

// TestP2505Once: what is whole, and what is kept, is asked of the files as they are, fast or not.
func TestP2505Once(t *testing.T) {
	d := begin{"ck-5": whole(5, ""), "ck-6": whole(6, ""), "ck-7": junk}.laid(t)
	d.Write("ck-6", whole(6, "")[:19])
	d.Write("ck-7", whole(7, ""))
	wantError(t, "Clean", store.Clean(d, 1), api.OK)
	begin{"ck-7": whole(7, "")}.want(t, "Clean", d)
	wantLoad(t, "Clean", d, 7, "", api.OK)
	d.Crash(nil)
	begin{"ck-7": junk}.want(t, "Clean", d)
}

// TestP2505Keep: of all sets of some checkpoints, and each keep, the greatest stay.
func TestP2505Keep(t *testing.T) {
	numbers := []int{0, 2, 9, 10, 11, 100}
	for bits := range 1 << len(numbers) {
		var there []int
		for i, n := range numbers {
			if bits>>i&1 == 1 {
				there = append(there, n)
			}
		}
		for keep := 1; keep <= len(there)+1; keep++ {
			d := roomyDisk(t)
			save(t, d, there...)
			wantError(t, "Clean", store.Clean(d, keep), api.OK)
			wantList(t, fmt.Sprint(there, keep), d, there[max(0, len(there)-keep):]...)
		}
	}
}
