package store_test

import (
	"encoding/binary"
	"math/big"
	"regexp"
	"slices"
	"sort"

	"pupil/api"
	"pupil/disk"
	"pupil/store"
)

// calls are the four calls: store's own, or the chapter told once more.
type calls struct {
	save  func(d *disk.Disk, n int, b []byte) api.Errno
	load  func(d *disk.Disk) (int, []byte, api.Errno)
	list  func(d *disk.Disk) []int
	clean func(d *disk.Disk, keep int) api.Errno
}

var (
	built = calls{store.Save, store.Load, store.List, store.Clean}
	plain = calls{plainSave, plainLoad, plainList, plainClean}
)

// entry is a file: its name, its bytes, and what these make of it. Of one without a checkpoint's name the number is -1.
type entry struct {
	name, bytes string
	number      int
	whole       bool
}

var pattern = regexp.MustCompile(`^ck-(0|[1-9][0-9]*)$`)

// entries are a disk's files, in the order of their names.
func entries(d *disk.Disk) []entry {
	var l []entry
	for _, name := range d.List() {
		b, _ := d.Read(name)
		x := entry{name: name, bytes: string(b), number: -1}
		if m := pattern.FindStringSubmatch(name); m != nil {
			if n, _ := new(big.Int).SetString(m[1], 10); n.Cmp(big.NewInt(1<<40)) <= 0 {
				x.number = int(n.Int64())
				x.whole = isForm(b, x.number)
			}
		}
		l = append(l, x)
	}
	return l
}

// isForm tells field by field whether bytes are those of a whole checkpoint.
func isForm(f []byte, n int) bool {
	if len(f) < 20 {
		return false
	}
	sum, at := new(big.Int), new(big.Int)
	for i, x := range f[:len(f)-4] {
		sum.Add(sum, at.Mul(big.NewInt(int64(i+1)), big.NewInt(int64(x))))
	}
	sum.Mod(sum, big.NewInt(1<<32))
	return f[0] == 0x70 && f[1] == 0x63 && f[2] == 0x6b && f[3] == 1 &&
		binary.LittleEndian.Uint64(f[4:]) == uint64(n) &&
		uint64(binary.LittleEndian.Uint32(f[12:]))+20 == uint64(len(f)) &&
		sum.Uint64() == uint64(binary.LittleEndian.Uint32(f[len(f)-4:]))
}

// wholeOnes are the whole checkpoints, the greatest number first.
func wholeOnes(l []entry) []entry {
	l = slices.DeleteFunc(slices.Clone(l), func(x entry) bool { return !x.whole })
	sort.Slice(l, func(i, k int) bool { return l[i].number > l[k].number })
	return l
}

func plainSave(d *disk.Disk, n int, b []byte) api.Errno {
	if n < 0 || n > 1<<40 {
		return api.ErrArg
	}
	if len(b) > 1<<22 {
		return api.ErrLong
	}
	if e := d.Write("new", whole(n, string(b))); e != api.OK {
		return e
	}
	if e := d.Flush("new"); e != api.OK {
		return e
	}
	if e := d.Rename("new", "ck-"+string(digits(n))); e != api.OK {
		return e
	}
	return d.Sync()
}

func plainLoad(d *disk.Disk) (int, []byte, api.Errno) {
	l := wholeOnes(entries(d))
	switch {
	case !d.On():
		return 0, nil, api.ErrOff
	case len(l) == 0:
		return 0, nil, api.ErrNone
	}
	return l[0].number, []byte(l[0].bytes[16 : len(l[0].bytes)-4]), api.OK
}

func plainList(d *disk.Disk) []int {
	var l []int
	for _, x := range wholeOnes(entries(d)) {
		l = append(l, x.number)
	}
	slices.Reverse(l)
	return l
}

func plainClean(d *disk.Disk, keep int) api.Errno {
	if keep < 1 {
		return api.ErrArg
	}
	if !d.On() {
		return api.ErrOff
	}
	all := entries(d)
	kept := wholeOnes(all)
	kept = kept[:min(keep, len(kept))]
	removed := 0
	for _, x := range all {
		if x.name != "new" && (x.number < 0 || slices.Contains(kept, x)) {
			continue
		}
		if e := d.Remove(x.name); e != api.OK {
			return e
		}
		removed++
	}
	if removed == 0 {
		return api.OK
	}
	return d.Sync()
}
