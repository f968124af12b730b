package store_test

import (
	"bytes"
	"fmt"
	"math/rand"
	"slices"
	"testing"

	"pupil/api"
	"pupil/disk"
)

// The calls that a script is made of: the four, those about the power, and the disk's own.
const (
	doSave = iota
	doLoad
	doList
	doClean
	doFuse
	doCrash
	doWrite
	doAppend
	doFlush
	doRename
	doRemove
	doSync
	kinds
)

// line is a call with its arguments.
type line struct {
	kind     int
	n        int
	name, to string
	b        []byte
	keep     []int
}

func (l line) String() string {
	return fmt.Sprintf("{%d: %d %q %q %.40q %d %v}", l.kind, l.n, l.name, l.to, l.b, len(l.b), l.keep)
}

// tell does a line to a disk, and tells what it answered.
func (x calls) tell(d *disk.Disk, l line) string {
	switch l.kind {
	case doSave:
		return fmt.Sprint(x.save(d, l.n, l.b))
	case doLoad:
		n, b, e := x.load(d)
		return fmt.Sprintf("%d %q %v", n, b, e)
	case doList:
		return fmt.Sprint(x.list(d))
	case doClean:
		return fmt.Sprint(x.clean(d, l.n))
	case doFuse:
		return fmt.Sprint(d.Fuse(l.n))
	case doCrash:
		d.Crash(l.keep)
		return ""
	case doWrite:
		return fmt.Sprint(d.Write(l.name, l.b))
	case doAppend:
		return fmt.Sprint(d.Append(l.name, l.b))
	case doFlush:
		return fmt.Sprint(d.Flush(l.name))
	case doRename:
		return fmt.Sprint(d.Rename(l.name, l.to))
	case doRemove:
		return fmt.Sprint(d.Remove(l.name))
	}
	return fmt.Sprint(d.Sync())
}

// heard tells all that is told on the way of a script, with Load, List and the disk's own calls behind each line.
func (x calls) heard(d *disk.Disk, script []line) []string {
	var l []string
	for _, c := range script {
		l = append(l, x.tell(d, c), x.tell(d, line{kind: doLoad}), x.tell(d, line{kind: doList}), look(d))
	}
	return l
}

// oneOf tells one of some things.
func oneOf[T any](r *rand.Rand, l ...T) T { return l[r.Intn(len(l))] }

// anyNumber tells a number that Save may be told.
func anyNumber(r *rand.Rand) int {
	return oneOf(r, 0, 1, 5, 7, 9, 10, 11, 99, 100, 1<<40-1, 1<<40)
}

// anyBytes tells the bytes of a checkpoint.
func anyBytes(r *rand.Rand) []byte {
	return []byte("some bytes, not too many of them"[:r.Intn(33)*r.Intn(2)])
}

// anyFile tells a name, and bytes for it: those of a whole checkpoint, or some that are close to it.
func anyFile(r *rand.Rand) (string, []byte) {
	n := anyNumber(r)
	f := whole(n, string(anyBytes(r)))
	switch r.Intn(8) {
	case 0:
		f[r.Intn(len(f))] ^= byte(1 << r.Intn(8))
	case 1:
		f = f[:r.Intn(len(f))]
	case 2:
		f = append(f, "more"[:1+r.Intn(4)]...)
	case 3:
		f[r.Intn(len(f)-4)] ^= byte(1 << r.Intn(8))
		f = summed(f[:len(f)-4])
	case 4:
		f = anyBytes(r)
	}
	if r.Intn(8) == 0 {
		n = anyNumber(r)
	}
	return oneOf(r, fmt.Sprint("ck-", n), fmt.Sprint("ck-", n), fmt.Sprint("ck-", n), "new", fmt.Sprint("ck-0", n), fmt.Sprint("ck-", n, "."), fmt.Sprint("ck-", n, "0"), "ck-", "other", "A"), f
}

// anyKeep tells a keep for so many works.
func anyKeep(r *rand.Rand, works int) []int {
	keep := make([]int, r.Intn(works+3))
	for i := range keep {
		keep[i] = oneOf(r, 0, 1, 1, highest, -1, 19, 20, 23, r.Intn(60))
	}
	return keep
}

// vast has one byte more than a checkpoint may have. It is made once, for all lines.
var vast = make([]byte, api.MaxDisk+1)

// anyLine tells any line of some kinds.
func anyLine(r *rand.Rand, kind int, works int) line {
	l := line{kind: kind, b: anyBytes(r)}
	switch kind {
	case doSave:
		l.n = oneOf(r, anyNumber(r), anyNumber(r), anyNumber(r), r.Intn(1<<40), -1, 1<<40+1, lowest, highest)
		if r.Intn(40) == 0 {
			l.b = vast[:api.MaxDisk+r.Intn(2)]
		}
	case doClean:
		l.n = oneOf(r, 1, 1, 2, 3, 5, 0, -1, lowest, highest)
	case doFuse:
		l.n = oneOf(r, 0, 1, 2, 3, 4, 5, 7, 11, -1, lowest, highest)
	case doCrash:
		l.keep = anyKeep(r, works)
	case doWrite, doAppend:
		l.name, l.b = anyFile(r)
	default:
		l.name, _ = anyFile(r)
		l.to, _ = anyFile(r)
	}
	return l
}

// TestP2502Scripts: long rows of all calls, the disk's own among them, held against the chapter told once more, call by call.
func TestP2502Scripts(t *testing.T) {
	r := rand.New(rand.NewSource(2502))
	told := map[string]int{}
	for range 500 {
		files, room := oneOf(r, 1, 2, 3, 6, 12, 30), oneOf(r, 0, 19, 25, 60, 150, 600, 5000)
		d, e := made(t, files, room), made(t, files, room)
		var row []line
		for range 20 + r.Intn(100) {
			kind := r.Intn(kinds)
			switch r.Intn(5) {
			case 0:
				kind = doSave
			case 1, 2:
				kind = oneOf(r, doWrite, doRemove, doRename, doSync)
			}
			if !d.On() && r.Intn(3) == 0 {
				kind = doCrash
			}
			l := anyLine(r, kind, len(d.Pending()))
			row = append(row, l)
			got, want := built.heard(d, []line{l}), plain.heard(e, []line{l})
			if !slices.Equal(got, want) {
				t.Fatalf("%v tells %q, want %q, behind %v", l, got, want, row)
			}
			switch kind {
			case doSave, doClean:
				told[fmt.Sprintf("%d %s", kind, want[0])]++
			}
			if n, b, e := plainLoad(e); e == api.OK && n > 0 && len(b) > 0 {
				told["Load"]++
			}
			told[fmt.Sprint("whole ", min(3, len(plainList(e))))]++
		}
	}
	often := []string{"Load", "whole 0", "whole 1", "whole 2", "whole 3"}
	for kind, l := range map[int][]api.Errno{doSave: {api.OK, api.ErrArg, api.ErrLong, api.ErrOff, api.ErrFull}, doClean: {api.OK, api.ErrArg, api.ErrOff}} {
		for _, e := range l {
			often = append(often, fmt.Sprintf("%d %v", kind, e))
		}
	}
	for _, what := range often {
		if told[what] < 20 {
			t.Errorf("%s: %d times", what, told[what])
		}
	}
}

// TestP2502Copies: a file that stands under two names, one of them its own, and one that was renamed.
func TestP2502Copies(t *testing.T) {
	for _, x := range []struct{ from, to string }{{"ck-5", "ck-6"}, {"ck-5", "new"}, {"ck-5", "ck-05"}, {"ck-6", "ck-5"}, {"new", "ck-5"}, {"new", "ck-6"}} {
		for _, copied := range []bool{false, true} {
			there := begin{"ck-5": whole(5, "b"), "new": whole(6, "c"), "ck-6": whole(6, "d")}
			d, e := there.laid(t), there.laid(t)
			for _, k := range []*disk.Disk{d, e} {
				if copied {
					b, _ := k.Read(x.from)
					k.Write(x.to, bytes.Clone(b))
				} else {
					k.Rename(x.from, x.to)
				}
			}
			script := []line{{kind: doSave, n: 4}, {kind: doClean, n: 2}, {kind: doSave, n: 5, b: []byte("x")}, {kind: doClean, n: 1}}
			if got, want := built.heard(d, script), plain.heard(e, script); !slices.Equal(got, want) {
				t.Errorf("%v: %q, want %q", x, got, want)
			}
		}
	}
}
