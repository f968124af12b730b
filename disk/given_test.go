package disk_test

import (
	"fmt"
	"math"
	"slices"
	"strconv"
	"strings"
	"testing"

	"pupil/api"
	"pupil/disk"
)

// machine is a disk, or the chapter told once more.
type machine interface {
	Write(name string, b []byte) api.Errno
	Append(name string, b []byte) api.Errno
	Flush(name string) api.Errno
	Rename(from, to string) api.Errno
	Remove(name string) api.Errno
	Sync() api.Errno
	Read(name string) ([]byte, api.Errno)
	List() []string
	Free() (int, int)
	Fuse(steps int) api.Errno
	On() bool
	Pending() []api.Work
	Crash(keep []int)
}

// The ends of the ints.
const (
	lowest  = math.MinInt
	highest = math.MaxInt
)

var ends = []int{lowest, lowest + 1, -1 << 32, 1 << 32, highest - 1, highest}

// made makes a disk, which is wanted.
func made(t *testing.T, files, bytes int) *disk.Disk {
	t.Helper()
	d, e := disk.New(files, bytes)
	if e != api.OK || d == nil {
		t.Fatalf("New(%d, %d): %v", files, bytes, e)
	}
	return d
}

// tell tells a disk a line of a script: W name bytes, A name bytes, F name, R from to, D name (Remove), S, Z steps (Fuse), C keep ..
func tell(m machine, line string) api.Errno {
	x := append(strings.Fields(line), "", "", "")
	switch x[0] {
	case "W":
		return m.Write(x[1], []byte(x[2]))
	case "A":
		return m.Append(x[1], []byte(x[2]))
	case "F":
		return m.Flush(x[1])
	case "R":
		return m.Rename(x[1], x[2])
	case "D":
		return m.Remove(x[1])
	case "S":
		return m.Sync()
	case "Z":
		n, _ := strconv.Atoi(x[1])
		return m.Fuse(n)
	case "C":
		var keep []int
		for _, k := range strings.Fields(line)[1:] {
			n, _ := strconv.Atoi(k)
			keep = append(keep, n)
		}
		m.Crash(keep)
		return api.OK
	}
	panic(line)
}

// lines cuts a script into lines.
func lines(script string) []string {
	var l []string
	for x := range strings.SplitSeq(script, ";") {
		if x = strings.TrimSpace(x); x != "" {
			l = append(l, x)
		}
	}
	return l
}

// play tells a disk a script; each line is to be answered by OK.
func play(t *testing.T, m machine, script string) {
	t.Helper()
	for _, x := range lines(script) {
		if e := tell(m, x); e != api.OK {
			t.Fatalf("%s: %q: %v", script, x, e)
		}
	}
}

// played makes a disk that has been told a script.
func played(t *testing.T, files, bytes int, script string) *disk.Disk {
	t.Helper()
	d := made(t, files, bytes)
	play(t, d, script)
	return d
}

// files tells a disk's files: a:xyz b:
func files(m machine) string {
	var l []string
	for _, name := range m.List() {
		b, _ := m.Read(name)
		l = append(l, name+":"+string(b))
	}
	return strings.Join(l, " ")
}

func wantFiles(t *testing.T, what string, m machine, want string) {
	t.Helper()
	if got := files(m); got != want {
		t.Errorf("%s: files %q, want %q", what, got, want)
	}
}

// pending tells a disk's works: 3 a>b 0, 1 a> 4
func pending(m machine) string {
	var l []string
	for _, w := range m.Pending() {
		l = append(l, fmt.Sprintf("%d %s>%s %d", w.Kind, w.Name, w.To, w.Len))
	}
	return strings.Join(l, ", ")
}

func wantPending(t *testing.T, what string, m machine, want string) {
	t.Helper()
	if got := pending(m); got != want {
		t.Errorf("%s: pending %q, want %q", what, got, want)
	}
}

func wantFree(t *testing.T, what string, m machine, files, bytes int) {
	t.Helper()
	if f, b := m.Free(); f != files || b != bytes {
		t.Errorf("%s: room for %d, %d, want %d, %d", what, f, b, files, bytes)
	}
}

func wantError(t *testing.T, what string, got, want api.Errno) {
	t.Helper()
	if got != want {
		t.Errorf("%s: %v, want %v", what, got, want)
	}
}

// asked are the names that look reads, besides those that there are.
var asked = []string{"a", "b", "c", "n", "", "A"}

// look tells all that a disk tells without a step.
func look(m machine) string {
	f, b := m.Free()
	s := fmt.Sprintf("on %v, %q, room %d %d, pending %s", m.On(), m.List(), f, b, pending(m))
	for _, name := range slices.Concat(asked, m.List()) {
		b, e := m.Read(name)
		s += fmt.Sprintf(", %s %q %v", name, b, e)
	}
	return s
}

// wantStill wants an error of a call, which changes nothing, and takes nothing of a fuse of one step.
func wantStill(t *testing.T, what string, m machine, want api.Errno, do func() api.Errno) {
	t.Helper()
	before := look(m)
	if m.On() {
		wantError(t, what+": Fuse", m.Fuse(1), api.OK)
	}
	wantError(t, what, do(), want)
	if after := look(m); after != before {
		t.Errorf("%s: %s, want %s", what, after, before)
	}
	if m.On() {
		wantError(t, what+": Fuse", m.Fuse(highest), api.OK)
	}
}

// both are a disk and the chapter told once more, of one size.
type both struct {
	d *disk.Disk
	p *plain
}

func bothOf(t *testing.T, names, bytes int) both {
	t.Helper()
	return both{made(t, names, bytes), plainOf(names, bytes)}
}

// tell tells both a line; they must answer the same, and tell the same behind it.
func (x both) tell(t *testing.T, row []string, line string) api.Errno {
	t.Helper()
	e, f := tell(x.d, line), tell(x.p, line)
	if e != f {
		t.Fatalf("%q behind %q: %v, want %v", line, row, e, f)
	}
	x.compare(t, append(slices.Clone(row), line))
	return e
}

func (x both) compare(t *testing.T, row []string) {
	t.Helper()
	if got, want := look(x.d), look(x.p); got != want {
		t.Fatalf("behind %q: %s, want %s", row, got, want)
	}
}
