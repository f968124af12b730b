package store_test

import (
	"bytes"
	"fmt"
	"math/rand"
	"slices"
	"testing"

	"pupil/api"
	"pupil/disk"
	"pupil/store"
)

// saved is a Save that was called.
type saved struct {
	n      int
	b      []byte
	answer api.Errno
}

// witness is a disk on which the calls of P2506 alone are called, and all that was saved there.
type witness struct {
	d     *disk.Disk
	saves []saved
}

// tell does a line to the disk.
func (w *witness) tell(l line) {
	if l.kind == doSave {
		w.saves = append(w.saves, saved{l.n, l.b, store.Save(w.d, l.n, l.b)})
		return
	}
	built.tell(w.d, l)
}

// fault tells what of P2506 doesn't hold of what Load tells now.
func (w *witness) fault() string {
	n, b, e := store.Load(w.d)
	if !w.d.On() {
		return ""
	}
	last := -1 // The last one of n that answered OK.
	for i, s := range w.saves {
		switch {
		case s.answer != api.OK:
		case e != api.OK:
			return fmt.Sprintf("%v, though %d was saved", e, s.n)
		case n < s.n:
			return fmt.Sprintf("%d, though %d was saved", n, s.n)
		case n == s.n:
			last = i
		}
	}
	if e == api.ErrNone {
		return ""
	}
	is := func(s saved) bool { return s.n == n && bytes.Equal(s.b, b) }
	refused := func(s saved) bool { return s.n == n && s.answer != api.OK }
	switch {
	case e != api.OK:
		return fmt.Sprint(e)
	case !slices.ContainsFunc(w.saves, is):
		return fmt.Sprintf("%d %q, which was never saved", n, b)
	case last >= 0 && !slices.ContainsFunc(w.saves[last:], refused) && !is(w.saves[last]):
		return fmt.Sprintf("%d %q, though %q was saved last", n, b, w.saves[last].b)
	}
	return ""
}

// witnessed tells a new disk a script, and looks at it behind each line.
func witnessed(t *testing.T, files, room int, script []line) *witness {
	t.Helper()
	w := &witness{d: made(t, files, room)}
	for i, l := range script {
		w.tell(l)
		if f := w.fault(); f != "" {
			t.Fatalf("Load tells %s, behind %v", f, script[:i+1])
		}
	}
	return w
}

// explore goes on with each of some calls, with the power failing behind each of its steps, and each keep of what is pending then; so often.
func explore(t *testing.T, files, room int, script, calls []line, often int) int {
	t.Helper()
	if often == 0 {
		return 1
	}
	ways := 0
	for _, l := range calls {
		for fuse := range 6 {
			s := append(slices.Clone(script), line{kind: doFuse, n: fuse}, l)
			w := witnessed(t, files, room, s)
			if w.d.On() {
				ways += explore(t, files, room, s, calls, often-1)
			}
			each([]int{0, 7, 99}, len(w.d.Pending()), func(keep []int) {
				s := append(slices.Clone(s), line{kind: doCrash, keep: slices.Clone(keep)})
				witnessed(t, files, room, s)
				ways += explore(t, files, room, s, calls, often-1)
			})
		}
	}
	return ways
}

// TestP2506Every: two calls behind some beginnings, with the power failing at each step, and each keep.
func TestP2506Every(t *testing.T) {
	calls := []line{
		{kind: doSave, n: 9, b: []byte("q")},
		{kind: doSave, n: 9, b: []byte("other bytes")},
		{kind: doSave, n: 10, b: []byte("greater")},
		{kind: doSave, n: 5, b: nil},
		{kind: doClean, n: 1},
		{kind: doClean, n: 2},
	}
	for _, x := range []struct {
		files, room int
		script      []line
	}{
		{9, 1000, nil},
		{9, 1000, []line{{kind: doSave, n: 9, b: []byte("z")}}},
		{9, 1000, []line{{kind: doSave, n: 5, b: []byte("xy")}, {kind: doSave, n: 7, b: []byte("z")}, {kind: doSave, n: 100}, {kind: doClean, n: 2}}},
		{2, 1000, []line{{kind: doSave, n: 9, b: []byte("z")}}},
		{9, 50, []line{{kind: doSave, n: 9, b: []byte("z")}}},
	} {
		if ways := explore(t, x.files, x.room, x.script, calls, 2); ways < 1000 {
			t.Errorf("%d ways", ways)
		}
	}
}

// anyPromised tells any line of the calls that P2506 speaks of.
func anyPromised(r *rand.Rand, works int) line {
	l := anyLine(r, oneOf(r, doSave, doSave, doSave, doLoad, doList, doClean, doFuse, doCrash), works)
	if l.kind == doFuse {
		l.n = r.Intn(12)
	}
	return l
}

// TestP2506Rows: long rows of these calls.
func TestP2506Rows(t *testing.T) {
	r := rand.New(rand.NewSource(2506))
	told := map[string]int{}
	for range 2500 {
		w := &witness{d: made(t, oneOf(r, 2, 3, 6, 64), oneOf(r, 60, 120, 5000))}
		var row []line
		for range 10 + r.Intn(60) {
			l := anyPromised(r, len(w.d.Pending()))
			if !w.d.On() && r.Intn(2) == 0 {
				l = anyLine(r, doCrash, len(w.d.Pending()))
			}
			w.tell(l)
			row = append(row, l)
			if f := w.fault(); f != "" {
				t.Fatalf("Load tells %s, behind %v", f, row)
			}
		}
		w.count(told)
	}
	for _, what := range []string{"that of the last one", "that of one ahead of it", "that of a refused one", "that of one that was never answered OK", "none"} {
		if told[what] < 10 {
			t.Errorf("%s: %d times", what, told[what])
		}
	}
}

// count counts what Load tells now, by what became of the Save that it is of.
func (w *witness) count(told map[string]int) {
	n, b, e := store.Load(w.d)
	if e != api.OK {
		told["none"]++
		return
	}
	last, ever := saved{}, false
	for _, s := range w.saves {
		if s.n == n {
			last, ever = s, ever || s.answer == api.OK
		}
	}
	switch {
	case !ever:
		told["that of one that was never answered OK"]++
	case !bytes.Equal(b, last.b):
		told["that of one ahead of it"]++
	case last.answer == api.OK:
		told["that of the last one"]++
	default:
		told["that of a refused one"]++
	}
}

// TestP2506EveryStep: rows of Saves and Cleans with the power failing behind each of all their steps; the rest of the row comes behind the Crash.
func TestP2506EveryStep(t *testing.T) {
	r := rand.New(rand.NewSource(25060))
	for range 60 {
		var row []line
		for range 12 {
			row = append(row, anyLine(r, oneOf(r, doSave, doSave, doClean), 0))
		}
		for fuse := range 60 {
			w := &witness{d: made(t, 8, 300)}
			w.tell(line{kind: doFuse, n: fuse})
			for _, l := range row {
				w.tell(l)
				if !w.d.On() {
					w.tell(line{kind: doCrash, keep: anyKeep(r, len(w.d.Pending()))})
				}
				if f := w.fault(); f != "" {
					t.Fatalf("Load tells %s, fuse %d, row %v", f, fuse, row)
				}
			}
		}
	}
}
