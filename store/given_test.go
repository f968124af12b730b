package store_test

import (
	"encoding/binary"
	"fmt"
	"math"
	"slices"
	"strings"
	"testing"

	"pupil/api"
	"pupil/disk"
	"pupil/store"
)

// The ends of the ints.
const (
	lowest  = math.MinInt
	highest = math.MaxInt
)

// made makes a disk, which is wanted.
func made(t *testing.T, files, bytes int) *disk.Disk {
	t.Helper()
	d, e := disk.New(files, bytes)
	if e != api.OK || d == nil {
		t.Fatalf("New(%d, %d): %v", files, bytes, e)
	}
	return d
}

// roomyDisk makes a disk with room for all that most tests want.
func roomyDisk(t *testing.T) *disk.Disk {
	t.Helper()
	return made(t, 20, 10000)
}

func wantError(t *testing.T, what string, got, want api.Errno) {
	t.Helper()
	if got != want {
		t.Errorf("%s: %v, want %v", what, got, want)
	}
}

// form tells bytes that have a file's form, with just these numbers and the right sum behind them.
func form(mark string, n uint64, length uint32, b string) []byte {
	f := []byte(mark)
	f = binary.LittleEndian.AppendUint64(f, n)
	f = binary.LittleEndian.AppendUint32(f, length)
	return summed(append(f, b...))
}

// summed puts the right sum behind bytes.
func summed(f []byte) []byte {
	sum := 0
	for i, x := range f {
		sum += (i + 1) * int(x)
	}
	return binary.LittleEndian.AppendUint32(slices.Clip(f), uint32(sum%(1<<32)))
}

// whole tells the bytes of a whole file.
func whole(n int, b string) []byte { return form("pck\x01", uint64(n), uint32(len(b)), b) }

// frame is how many bytes of a file are not the checkpoint's.
const frame = 20

// lay puts a file on a disk, whose bytes and name are fast then.
func lay(t *testing.T, d *disk.Disk, name string, b []byte) {
	t.Helper()
	for _, e := range []api.Errno{d.Write(name, b), d.Flush(name), d.Sync()} {
		if e != api.OK {
			t.Fatalf("%s: %v", name, e)
		}
	}
}

// save saves checkpoints, each of the bytes that are its number's digits.
func save(t *testing.T, d *disk.Disk, numbers ...int) {
	t.Helper()
	for _, n := range numbers {
		if e := store.Save(d, n, digits(n)); e != api.OK {
			t.Fatalf("Save(%d): %v", n, e)
		}
	}
}

func digits(n int) []byte { return fmt.Append(nil, n) }

// pending tells a disk's works: 3 a>b 0, 1 a> 4
func pending(d *disk.Disk) string {
	var l []string
	for _, w := range d.Pending() {
		l = append(l, fmt.Sprintf("%d %s>%s %d", w.Kind, w.Name, w.To, w.Len))
	}
	return strings.Join(l, ", ")
}

func wantPending(t *testing.T, what string, d *disk.Disk, want string) {
	t.Helper()
	if got := pending(d); got != want {
		t.Errorf("%s: pending %q, want %q", what, got, want)
	}
}

// names tells a disk's names, one behind another.
func names(d *disk.Disk) string { return strings.Join(d.List(), " ") }

func wantNames(t *testing.T, what string, d *disk.Disk, want string) {
	t.Helper()
	if got := names(d); got != want {
		t.Errorf("%s: names %q, want %q", what, got, want)
	}
}

func wantFile(t *testing.T, what string, d *disk.Disk, name string, want []byte) {
	t.Helper()
	if b, e := d.Read(name); e != api.OK || string(b) != string(want) {
		t.Errorf("%s: %s is %q, %v, want %q", what, name, b, e, want)
	}
}

// wantLoad wants Load's answer.
func wantLoad(t *testing.T, what string, d *disk.Disk, n int, b string, e api.Errno) {
	t.Helper()
	if m, c, f := store.Load(d); m != n || string(c) != b || f != e {
		t.Errorf("%s: Load tells %d %.40q %v, want %d %.40q %v", what, m, c, f, n, b, e)
	}
}

func wantList(t *testing.T, what string, d *disk.Disk, want ...int) {
	t.Helper()
	if l := store.List(d); !slices.Equal(l, want) {
		t.Errorf("%s: List tells %v, want %v", what, l, want)
	}
}

// look tells all that a disk tells without a step, its own calls alone.
func look(d *disk.Disk) string {
	f, b := d.Free()
	s := fmt.Sprintf("on %v, room %d %d, pending %s", d.On(), f, b, pending(d))
	for _, name := range d.List() {
		b, e := d.Read(name)
		s += fmt.Sprintf(", %s %q %v", name, b, e)
	}
	return s
}

// wantStill wants a call to change nothing of a disk, and to take nothing of a fuse of one step.
func wantStill(t *testing.T, what string, d *disk.Disk, do func()) {
	t.Helper()
	before := look(d)
	if d.On() {
		wantError(t, what+": Fuse", d.Fuse(1), api.OK)
	}
	do()
	if after := look(d); after != before {
		t.Errorf("%s: %s, want %s", what, after, before)
	}
	if d.On() {
		wantError(t, what+": Fuse", d.Fuse(highest), api.OK)
	}
}

// each goes over all rows of so many of some things.
func each[T any](things []T, n int, do func(row []T)) {
	row := make([]T, n)
	var fill func(at int)
	fill = func(at int) {
		if at == n {
			do(row)
			return
		}
		for _, x := range things {
			row[at] = x
			fill(at + 1)
		}
	}
	fill(0)
}
