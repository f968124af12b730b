package disk_test

import (
	"fmt"
	"math/rand"
	"slices"
	"testing"

	"pupil/api"
)

// TestP2411: behind Flush and then Sync a crash changes nothing of that file, whatever keep is, and whatever else is pending; behind a crash another one changes nothing.
func TestP2411(t *testing.T) {
	r := rand.New(rand.NewSource(2411))
	flushed := 0
	for range 3000 {
		d := made(t, 4, 20)
		var script []string
		for range 1 + r.Intn(12) {
			line := anyStep(r)
			script = append(script, line)
			tell(d, line)
			if r.Intn(12) == 0 {
				d.Crash(anyKeep(r, len(d.Pending())))
			}
		}
		if l := d.List(); len(l) > 0 {
			name := l[r.Intn(len(l))]
			b, _ := d.Read(name)
			play(t, d, "F "+name+"; S")
			keep := anyKeep(r, len(d.Pending()))
			d.Crash(keep)
			if got, e := d.Read(name); e != api.OK || !slices.Equal(got, b) {
				t.Fatalf("%q, then flushed, synced, and a crash that keeps %v: %s: %q, %v, want %q", script, keep, name, got, e, b)
			}
			flushed++
			tell(d, anyStep(r))
		}
		d.Crash(anyKeep(r, len(d.Pending())))
		before := look(d)
		for range 3 {
			d.Crash(anyKeep(r, 8))
		}
		if after := look(d); after != before {
			t.Fatalf("%s, want %s", after, before)
		}
	}
	if flushed < 1000 {
		t.Errorf("%d files", flushed)
	}
}

// TestP2411Needed: neither Flush alone, nor Sync alone, nor Sync with Flush behind something else, is enough.
func TestP2411Needed(t *testing.T) {
	for _, x := range []struct{ script, files string }{
		{"W a x; F a; S; C", "a:x"},
		{"W a x; F a; C", ""},
		{"W a x; S; C", "a:"},
		{"W a x; F a; A a y; S; C", "a:x"},
		{"W a x; F a; S; A a y; C", "a:x"},
		{"W a x; S; F a; R a b; C", "a:x"},
		{"W a x; F a; W b y; F b; S; C", "a:x b:y"},
		{"W a x; F a; S; W b y; C 9 9", "a:x b:y"},
	} {
		wantFiles(t, x.script, played(t, 4, 20, x.script), x.files)
	}
}

// anyKeep makes a keep for about so many works: too short, too long, of all kinds of numbers.
func anyKeep(r *rand.Rand, works int) []int {
	var keep []int
	for range max(0, works+r.Intn(5)-2) {
		keep = append(keep, []int{0, 0, 1, 1, 1, 2, 3, 9, -1, lowest, highest}[r.Intn(11)])
	}
	return keep
}

// anyStep makes a line of a step on few names; some are refused.
func anyStep(r *rand.Rand) string {
	name := func() string { return []string{"a", "a", "b", "b", "c", "n", "new.1"}[r.Intn(7)] }
	bytes := "vwxyz12345678901234567"[:[]int{0, 1, 1, 2, 2, 3, 4, 5, 9, 21}[r.Intn(10)]]
	if n := r.Intn(60); n == 0 {
		return fmt.Sprintf("%c A B", "WAFRD"[r.Intn(5)])
	}
	switch r.Intn(12) {
	case 0, 1, 2:
		return "W " + name() + " " + bytes
	case 3, 4:
		return "A " + name() + " " + bytes
	case 5, 6:
		return "F " + name()
	case 7, 8:
		return "R " + name() + " " + name()
	case 9:
		return "D " + name()
	}
	return "S"
}
