package disk_test

import (
	"fmt"
	"slices"
	"strings"
	"testing"
)

// crashed are scripts with what a crash leaves.
type crashed []struct{ script, files string }

func (l crashed) want(t *testing.T) {
	t.Helper()
	for _, x := range l {
		d := played(t, 5, 50, x.script)
		wantFiles(t, x.script, d, x.files)
		wantPending(t, x.script, d, "")
		if !d.On() {
			t.Errorf("%s: no power", x.script)
		}
		play(t, d, "C 1 1 1 1")
		wantFiles(t, x.script+", and once more", d, x.files)
	}
}

// there is a script behind which there are two files that are fast.
const there = "W a 123; W b 456; F a; F b; S; "

// TestP2410Keep: of each kind of work each k: below 0, 0, 1, one less than its bytes, as many, one more, the ends of int.
func TestP2410Keep(t *testing.T) {
	for _, x := range []struct{ line, bytes, kept string }{ // In the files that are kept the first of the bytes stand for the star.
		{"W a wxyz", "wxyz", "a:* b:456"},
		{"W b w", "w", "a:123 b:*"},
		{"W a", "", "a: b:456"},
		{"A a wxyz", "wxyz", "a:123* b:456"},
		{"A b w", "w", "a:123 b:456*"},
		{"A a", "", "a:123 b:456"},
		{"R a c", "", "b:456 c:123"},
		{"R a b", "", "b:123"},
		{"R b a", "", "a:456"},
		{"D a", "", "b:456"},
		{"D b", "", "a:123"},
	} {
		for _, k := range slices.Concat(ends, []int{-2, -1, 0, 1, 2, 3, 4, 5, 6, 1 << 22}) {
			want := "a:123 b:456"
			if k > 0 {
				want = strings.ReplaceAll(x.kept, "*", x.bytes[:min(k, len(x.bytes))])
			}
			for _, off := range []bool{false, true} {
				d := played(t, 5, 50, there+x.line)
				if off {
					play(t, d, "Z 0")
				}
				keep := []int{k}
				d.Crash(keep)
				wantFiles(t, fmt.Sprint(x.line, " ", k), d, want)
				if keep[0] != k || !d.On() {
					t.Errorf("%v, %v", keep, d.On())
				}
			}
		}
	}
	// A file that is new.
	for _, k := range slices.Concat(ends, []int{-1, 0, 1, 2}) {
		for _, line := range []string{"W n", "A n", "W n xy", "A n xy"} {
			d := played(t, 5, 50, line)
			d.Crash([]int{k})
			want := ""
			if k > 0 {
				want = "n:"
			}
			wantFiles(t, fmt.Sprint(line, " ", k), d, want)
		}
	}
}

// TestP2410Length: keep is too short, too long, none.
func TestP2410Length(t *testing.T) {
	script := there + "A a x; A b y; A a z"
	crashed{
		{script + "; C", "a:123 b:456"},
		{script + "; C 1", "a:123x b:456"},
		{script + "; C 1 1", "a:123x b:456y"},
		{script + "; C 1 1 1", "a:123xz b:456y"},
		{script + "; C 0 1", "a:123 b:456y"},
		{script + "; C 0 0 1", "a:123z b:456"},
		{script + "; C 1 1 1 1", "a:123xz b:456y"},
		{script + "; C 0 0 0 1 1 1 1", "a:123 b:456"},
		{script + "; C 1 -1 1 9 -9", "a:123xz b:456"},
		{there + "C 1 1 1 1", "a:123 b:456"},
		{there + "C", "a:123 b:456"},
		{"C", ""}, {"C 1 2 3", ""}, {"C -1", ""},
	}.want(t)
	d := played(t, 5, 50, script)
	d.Crash([]int{})
	wantFiles(t, "an empty keep", d, "a:123 b:456")
	d = played(t, 5, 50, script)
	d.Crash(slices.Repeat([]int{highest}, 1000))
	wantFiles(t, "a long keep", d, "a:123xz b:456y")
}

// TestP2410Bytes: works on bytes in several orders, of one file and of two.
func TestP2410Bytes(t *testing.T) {
	crashed{
		{there + "W a vw; A a xyz; C 2 3", "a:vwxyz b:456"},
		{there + "W a vw; A a xyz; C 0 3", "a:123xyz b:456"},
		{there + "W a vw; A a xyz; C 2 0", "a:vw b:456"},
		{there + "W a vw; A a xyz; C 1 1", "a:vx b:456"},
		{there + "W a vw; A a xyz; C 0 2", "a:123xy b:456"},
		{there + "A a xyz; W a vw; C 3 2", "a:vw b:456"},
		{there + "A a xyz; W a vw; C 3 0", "a:123xyz b:456"},
		{there + "A a xyz; W a vw; C 2 1", "a:v b:456"},
		{there + "A a xyz; W a vw; C 0 2", "a:vw b:456"},
		{there + "W a vw; W a x; C 2 1", "a:x b:456"},
		{there + "W a vw; W a x; C 2 0", "a:vw b:456"},
		{there + "W a vw; W a x; C 1 0", "a:v b:456"},
		{there + "W a x; W a vwxyz; C 1 3", "a:vwx b:456"},
		{there + "A a x; A a y; A a z; C 1 0 1", "a:123xz b:456"},
		{there + "A a xx; A a yy; A a zz; C 1 1 1", "a:123xyz b:456"},
		{there + "W a; A a x; C 0 1", "a:123x b:456"},
		{there + "W a; A a x; C 1 1", "a:x b:456"},
		{there + "W a; A a x; C 7 0", "a: b:456"},
		{there + "A a; A a x; C 7 7", "a:123x b:456"},
		{there + "A a x; W a; C 1 1", "a: b:456"},
		{there + "A a x; W a; C 1 0", "a:123x b:456"},
		{there + "W a w; W b x; A a y; A b z; C 1 0 1 0", "a:wy b:456"},
		{there + "W a w; W b x; A a y; A b z; C 0 1 0 1", "a:123 b:xz"},
		{there + "W a w; W b x; A a y; A b z; C 0 1 1 0", "a:123y b:x"},
		{there + "A a w; F a; W a x; A a y; C 0 1", "a:123wy b:456"},
		{there + "A a w; F a; A a x; C 0", "a:123w b:456"},
	}.want(t)
}

// TestP2410Names: works of names: each kept and lost, earlier ones and later ones; files without a name are no more.
func TestP2410Names(t *testing.T) {
	crashed{
		// A name that a file was made with is lost, and kept.
		{"W a xy; C 0 2", ""},
		{"W a xy; C 1 2", "a:xy"},
		{"W a xy; C 1 0", "a:"},
		{"W a xy; C 0 2; W a; C 1", "a:"},
		{"W a xy; F a; C 0", ""},
		{"W a xy; F a; C 1", "a:xy"},
		{"W a xy; R a b; C 0 2 1", "b:xy"},
		{"W a xy; R a b; C 1 2 1", "b:xy"},
		{"W a xy; R a b; C 1 2 0", "a:xy"},
		{"W a xy; R a b; C 0 2 0", ""},
		{"W a xy; R a b; R b c; C 0 2 0 1", "c:xy"},
		{"W a xy; R a b; R b c; C 1 2 0 1", "c:xy"},
		{"W a xy; R a b; R b c; C 1 2 1 0", "b:xy"},
		{"W a xy; R a b; R b c; C 0 2 1 0", "b:xy"},
		{"W a xy; R a b; R b a; C 0 2 1 0", "b:xy"},
		{"W a xy; R a b; R b a; C 0 2 0 1", "a:xy"},
		{"W a xy; R a b; R b a; C 1 2 1 1", "a:xy"},
		// Over a file that is there.
		{there + "R a b; C 1", "b:123"},
		{there + "R a b; C 0", "a:123 b:456"},
		{there + "R a b; W a x; C 1 1 1", "a:x b:123"},
		{there + "R a b; W a x; C 0 1 1", "a:x b:456"},
		{there + "R a b; W a x; C 1 0 1", "b:123"},
		{there + "R a b; W a x; C 0 0 1", "a:123 b:456"},
		{there + "R a b; A b x; C 0 1", "a:123x b:456"},
		{there + "R a b; A b x; C 1 1", "b:123x"},
		{there + "A b x; R a b; C 1 0", "a:123 b:456x"},
		{there + "A b x; R a b; C 1 1", "b:123"},
		// Exchanged by way of a third name.
		{there + "R a c; R b a; R c b; C 1 1 1", "a:456 b:123"},
		{there + "R a c; R b a; R c b; C 0 1 1", "a:456 b:123"},
		{there + "R a c; R b a; R c b; C 1 0 1", "b:123"},
		{there + "R a c; R b a; R c b; C 1 1 0", "a:456 c:123"},
		{there + "R a c; R b a; R c b; C 0 1 0", "a:456"},
		{there + "R a c; R b a; R c b; C 0 0 1", "b:123"},
		{there + "R a c; R b a; R c b; C 1 0 0", "b:456 c:123"},
		{there + "R a c; R b a; R c b; C", "a:123 b:456"},
		// A file that lost its name to one that lost it then.
		{there + "R a b; R b c; C 1 1", "c:123"},
		{there + "R a b; R b c; C 0 1", "b:456 c:123"},
		{there + "R a b; R b c; C 1 0", "b:123"},
		{there + "R a b; R b a; C 1 1", "a:123"},
		{there + "R a b; R b a; C 0 1", "a:123 b:456"},
		// Removed.
		{there + "D a; C 1", "b:456"},
		{there + "D a; C 0", "a:123 b:456"},
		{there + "D a; W a x; C 0 1 1", "a:x b:456"},
		{there + "D a; W a x; C 1 1 1", "a:x b:456"},
		{there + "D a; W a x; C 1 0 1", "b:456"},
		{there + "D a; W a x; C 0 0 1", "a:123 b:456"},
		{there + "D a; R b a; C 0 1", "a:456"},
		{there + "D a; R b a; C 1 0", "b:456"},
		{there + "D a; R b a; C 1 1", "a:456"},
		{there + "A a x; D a; C 1 0", "a:123x b:456"},
		{there + "A a x; D a; C 1 1", "b:456"},
		{"W a x; D a; C 1 1 0", "a:x"},
		{"W a x; D a; C 1 1 1", ""},
		{"W a x; D a; C 0 1 1", ""},
		{"W a x; D a; C 0 1 0", ""},
	}.want(t)
}

// TestP2410Removed: a removal that is kept, where its file has another name, or another file the name, or neither.
func TestP2410Removed(t *testing.T) {
	crashed{
		// The renaming ahead of it is lost: the file has its old name, and keeps it.
		{there + "R a c; D c; C 0 1", "a:123 b:456"},
		{there + "R a c; D c; C 1 1", "b:456"},
		{there + "R a c; D c; C 1 0", "b:456 c:123"},
		{there + "R a b; D b; C 0 1", "a:123 b:456"},
		{there + "R a b; D b; C 1 1", ""},
		// Another file has the name, which has lost it since.
		{there + "R a c; W a x; D a; C 0 1 1 1", "b:456"},
		{there + "R a c; W a x; D a; C 0 0 1 1", "a:123 b:456"},
		{there + "R a c; W a x; D a; C 1 0 1 1", "b:456 c:123"},
		{there + "R a c; R b a; D a; C 0 0 1", "a:123 b:456"},
		{there + "R a c; R b a; D a; C 1 0 1", "b:456 c:123"},
		{there + "R a c; R b a; D a; C 0 1 1", ""},
		{there + "D a; W a x; D a; C 0 0 1 1", "a:123 b:456"},
		{there + "D a; W a x; D a; C 0 1 1 1", "b:456"},
		{there + "D a; W a x; D a; C 1 0 1 1", "b:456"},
		{there + "D a; W a x; D a; C 1 1 1 0", "a:x b:456"},
		{there + "R b a; R a c; W a x; D a; C 1 0 0 1 1", "a:456"},
		{there + "R b a; R a c; W a x; D a; C 1 1 0 1 1", "c:456"},
		{there + "R b a; D a; W a x; D a; C 1 0 0 0 1", "a:456"},
		{there + "R b a; D a; C 0 1", "a:123 b:456"},
	}.want(t)
}

// TestP2410Over: a removal that is lost, with what came behind it kept: more than there is room for is not asked.
func TestP2410Over(t *testing.T) {
	for _, x := range []struct {
		script, files string
		names, bytes  int
	}{
		{"W a 12; W b 34; F a; F b; S; D a; W c 56; C 0 1 2", "a:12 b:34 c:56", -1, -2},
		{"W a 12; W b 34; F a; F b; S; R a b; W c 56; C 0 1 2", "a:12 b:34 c:56", -1, -2},
		{"W a 12; W b 34; F a; F b; S; W a; A b 56; C 0 2", "a:12 b:3456", 0, -2},
		{"W a 12; W b 34; F a; F b; S; D a; D b; W c 5; W d 6; C 0 0 1 0 1 0", "a:12 b:34 c: d:", -2, 0},
		{"W a 12; W b 34; F a; F b; S; D a; D b; W c 5; W d 6; C 1 0 1 1 1 1", "b:34 c:5 d:6", -1, 0},
		{"W a 12; W b 34; F a; F b; S; D a; D b; W c 5; W d 6; C 1 1 1 1 1 1", "c:5 d:6", 0, 2},
	} {
		d := played(t, 2, 4, x.script)
		wantFiles(t, x.script, d, x.files)
		wantFree(t, x.script, d, x.names, x.bytes)
	}
}

// TestP2410Again: crash behind crash; what is told between counts, and places count from 0 anew.
func TestP2410Again(t *testing.T) {
	crashed{
		{there + "A a x; C 1; A a y; C 1", "a:123xy b:456"},
		{there + "A a x; C; A a y; C 1", "a:123y b:456"},
		{there + "A a x; C 1; A a y; C", "a:123x b:456"},
		{there + "A a x; C 1; C 0; C 5", "a:123x b:456"},
		{there + "D a; C; D b; C 1", "a:123"},
		{there + "D a; C 1; W a x; C 1", "a: b:456"},
		{there + "D a; C 1; A a x; C 1 1", "a:x b:456"},
		{there + "R a c; C; A a x; C 1", "a:123x b:456"},
		{there + "R a c; C 1; A c x; C 1", "b:456 c:123x"},
		{there + "W a x; C; A a y; F a; C", "a:123y b:456"},
		{there + "W a x; S; C; A a y; F a; C", "a:123y b:456"},
		{"W a 1; C; W a 2; F a; S; C", "a:2"},
		{"W a 1; C 1; A a 2; F a; C", "a:2"},
		{"W a 1; D a; S; C 1; A a 2; C 1 1", "a:2"},
	}.want(t)
	// With power, without, and with a fuse.
	for _, power := range []string{"S", "Z 0", "Z 5", "Z 1; S"} {
		d := played(t, 5, 50, there+"A a x; "+power+"; C 1; A a y; "+power+"; C 1; S; S; S")
		wantFiles(t, power, d, "a:123xy b:456")
	}
}
