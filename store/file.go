package store

import (
	"bytes"
	"slices"
	"strconv"
	"strings"

	"pupil/api"
	"pupil/disk"
	"pupil/state"
)

const (
	draft = "new" // The name of a checkpoint that is not yet one.
	ahead = "ck-" // What a checkpoint's name begins with.
	mark  = "pck\x01"
)

// How many bytes the numbers of a file have.
const (
	numberSize = 8
	lengthSize = 4
	sumSize    = 4
)

// headSize is how many bytes of a file stand ahead of the checkpoint's.
const headSize = len(mark) + numberSize + lengthSize

// nameOf tells the name of a checkpoint's file.
func nameOf(n int) string { return ahead + strconv.Itoa(n) }

// numberOf tells the number of the checkpoint whose file has a name, if it is the name of one.
func numberOf(name string) (n int, known bool) {
	for _, r := range strings.TrimPrefix(name, ahead) {
		if r < '0' || r > '9' {
			return 0, false
		}
		if n = 10*n + int(r-'0'); n > api.MaxStep {
			return 0, false
		}
	}
	if name != nameOf(n) { // Digits alone, none at all, or noughts ahead of them.
		return 0, false
	}
	return n, true
}

// numbers tells the numbers of all files that have a checkpoint's name, rising.
func numbers(d *disk.Disk) []int {
	var l []int
	for _, name := range d.List() {
		if n, known := numberOf(name); known {
			l = append(l, n)
		}
	}
	slices.Sort(l)
	return l
}

// written tells the bytes of a checkpoint's file.
func written(n int, b []byte) []byte {
	f := make([]byte, 0, headSize+len(b)+sumSize)
	f = append(f, mark...)
	f = number(f, n, numberSize)
	f = number(f, len(b), lengthSize)
	f = append(f, b...)
	return number(f, state.Sum(f), sumSize)
}

// number puts so many bytes of a number behind others, the lowest first.
func number(f []byte, n, size int) []byte {
	for i := range size {
		f = append(f, byte(n>>(8*i)))
	}
	return f
}

// reader tells how to ask a disk for a checkpoint: for its bytes, and whether its file is whole. That it is, if it has just the bytes that would be written for what stands in it.
func reader(d *disk.Disk) func(n int) ([]byte, bool) {
	return func(n int) ([]byte, bool) {
		f, e := d.Read(nameOf(n))
		if e != api.OK || len(f) < headSize+sumSize {
			return nil, false
		}
		b := f[headSize : len(f)-sumSize]
		if !bytes.Equal(f, written(n, b)) {
			return nil, false
		}
		return b, true
	}
}
