package disk_test

import (
	"testing"

	"pupil/api"
)

// TestP2406Works: which works a flush takes, and which it leaves; of several files, under several names.
func TestP2406Works(t *testing.T) {
	for _, x := range []struct{ script, pending string }{
		{"W a 1; F a", "3 >a 0"},
		{"W a; F a", "3 >a 0"},
		{"A a 1; A a 2; W a 3; A a; F a", "3 >a 0"},
		{"W a 1; W b 2; F a", "3 >a 0, 3 >b 0, 1 b> 1"},
		{"W a 1; W b 2; A a 3; A b 4; F b", "3 >a 0, 1 a> 1, 3 >b 0, 2 a> 1"},
		{"W a 1; W b 2; F a; F b", "3 >a 0, 3 >b 0"},
		{"W a 1; F a; A a 2", "3 >a 0, 2 a> 1"},
		{"W a 1; F a; A a 2; F a", "3 >a 0"},
		// Of one file under other names.
		{"W a 1; R a b; F b", "3 >a 0, 3 a>b 0"},
		{"W a 1; R a b; A b 2; R b c; A c 3; F c", "3 >a 0, 3 a>b 0, 3 b>c 0"},
		{"W a 1; R a b; R b a; F a", "3 >a 0, 3 a>b 0, 3 b>a 0"},
		// Another file with a name that it had.
		{"W a 1; R a b; W a 2; F b", "3 >a 0, 3 a>b 0, 3 >a 0, 1 a> 1"},
		{"W a 1; R a b; W a 2; F a", "3 >a 0, 1 a> 1, 3 a>b 0, 3 >a 0"},
		{"W a 1; W b 2; R a c; R b a; A a 3; A c 4; F a", "3 >a 0, 1 a> 1, 3 >b 0, 3 a>c 0, 3 b>a 0, 2 c> 1"},
		{"W a 1; W b 2; R a c; R b a; A a 3; A c 4; F c", "3 >a 0, 3 >b 0, 1 b> 1, 3 a>c 0, 3 b>a 0, 2 a> 1"},
		// A file that has been removed, or whose name another one has; one that came anew under its name.
		{"W a 1; D a; W a 2; F a", "3 >a 0, 1 a> 1, 4 a> 0, 3 >a 0"},
		{"W a 1; W b 2; R b a; F a", "3 >a 0, 1 a> 1, 3 >b 0, 3 b>a 0"},
		{"W a 1; W b 2; R b a; A a 3; F a", "3 >a 0, 1 a> 1, 3 >b 0, 3 b>a 0"},
		{"W a 1; D a; W b 2; F b", "3 >a 0, 1 a> 1, 4 a> 0, 3 >b 0"},
		{"W a 1; F a; S; A a 2; D a; A a 3; F a", "2 a> 1, 4 a> 0, 3 >a 0"},
		{"W a 1; D a; S; W a 2; F a", "1 a> 1, 3 >a 0"},
		// A renaming to itself is no work.
		{"W a 1; R a a; F a", "3 >a 0"},
	} {
		d := played(t, 5, 50, x.script)
		wantPending(t, x.script, d, x.pending)
	}
}

// TestP2406Fast: the works are done to what is fast in their order, and no name is.
func TestP2406Fast(t *testing.T) {
	for _, x := range []struct{ script, files string }{
		{"W a 1; F a; C", ""},
		{"W a 1; S; F a; C", "a:1"},
		{"W a 1; F a; S; C", "a:1"},
		{"W a 1; F a; C 1", "a:1"},
		{"W a; S; A a 1; A a 2; A a 3; F a; C", "a:123"},
		{"W a; S; A a 1; W a 2; A a 3; F a; C", "a:23"},
		{"W a; S; W a 123; W a 4; F a; C", "a:4"},
		{"W a; S; W a 123; W a; F a; C", "a:"},
		{"W a; S; W a 123; F a; W a; F a; C", "a:"},
		{"W a; S; A a 12; A a; F a; C", "a:12"},
		{"W a; S; A a 12; F a; A a 34; C", "a:12"},
		{"W a; S; A a 12; F a; A a 34; C 1", "a:123"},
		{"W a; S; A a 12; F a; A a 34; F a; A a 56; C 1", "a:12345"},
		{"W a 1; W b 2; S; F a; C", "a:1 b:"},
		{"W a 1; W b 2; S; F b; C", "a: b:2"},
		{"W a 1; S; R a b; F b; C", "a:1"},
		{"W a 1; S; R a b; F b; C 1", "b:1"},
		{"W a 1; S; R a b; A b 2; W a 3; F b; C 0 1 1", "a:3"},
		{"W a 1; S; R a b; A b 2; W a 3; F b; C 1 1 1", "a:3 b:12"},
		{"W a 1; S; R a b; A b 2; W a 3; F a; C 0 0", "a:"},
		{"W a 1; S; R a b; A b 2; W a 3; F a; C 1 1 0 1", "a:3 b:1"},
		{"W a 1; S; F a; D a; W a 2; F a; C", "a:1"},
		{"W a 1; S; F a; D a; W a 2; F a; C 1 1", "a:2"},
		{"W a 1; S; F a; D a; W a 2; F a; C 1 0", ""},
		{"W a 1; S; D a; W a 2; F a; C", "a:"},
		{"W a 1; S; D a; W a 2; F a; C 5", "a:1"},
	} {
		wantFiles(t, x.script, played(t, 5, 50, x.script), x.files)
	}
}

// TestP2406None: no file has the name: none had it, it is removed, it has another one now.
func TestP2406None(t *testing.T) {
	for _, script := range []string{"", "W b 1", "W a 1; D a", "W a 1; S; D a", "W a 1; R a b", "W a 1; F a; S; R a b; S", "W a 1; C"} {
		d := played(t, 5, 50, script)
		wantStill(t, script, d, api.ErrFile, func() api.Errno { return d.Flush("a") })
	}
}

// TestP2406Nothing: a flush with nothing pending is a step that changes nothing, but the fuse.
func TestP2406Nothing(t *testing.T) {
	for _, script := range []string{"W a 1; F a; S", "W a 1; F a", "W a 1; W b 2; S; F a", "W a 1; S; C", "W a 1; F a; S; R a b; R b a; S"} {
		d := played(t, 5, 50, script)
		before := look(d)
		play(t, d, "F a; F a")
		if after := look(d); after != before {
			t.Errorf("%s: %s, want %s", script, after, before)
		}
		play(t, d, "Z 2; F a")
		if !d.On() {
			t.Errorf("%s: no power", script)
		}
		play(t, d, "F a")
		if d.On() {
			t.Errorf("%s: power", script)
		}
	}
}
