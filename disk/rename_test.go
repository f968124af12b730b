package disk_test

import (
	"testing"

	"pupil/api"
)

// TestP2407Rename: to a name that none has, to one that a file has, to itself, there and back, several in a row.
func TestP2407Rename(t *testing.T) {
	two := "W a 12; W b 345; F a; F b; S; "
	wantRows(t, 4, 10, []row{
		{two + "R a c", "b:345 c:12", "3 a>c 0", 2, 5},
		{two + "R a b", "b:12", "3 a>b 0", 3, 8},
		{two + "R b a", "a:345", "3 b>a 0", 3, 7},
		{two + "R a a", "a:12 b:345", "", 2, 5},
		{two + "R a a; R b b; R a a", "a:12 b:345", "", 2, 5},
		{two + "R a c; R c a", "a:12 b:345", "3 a>c 0, 3 c>a 0", 2, 5},
		{two + "R a b; R b a", "a:12", "3 a>b 0, 3 b>a 0", 3, 8},
		{two + "R a c; R b a; R c b", "a:345 b:12", "3 a>c 0, 3 b>a 0, 3 c>b 0", 2, 5},
		{two + "R a c; R c d; R d e", "b:345 e:12", "3 a>c 0, 3 c>d 0, 3 d>e 0", 2, 5},
		{two + "R a c; R c b; R b d", "d:12", "3 a>c 0, 3 c>b 0, 3 b>d 0", 3, 8},
		{two + "R a c; W a 6", "a:6 b:345 c:12", "3 a>c 0, 3 >a 0, 1 a> 1", 1, 4},
		{two + "R a c; A c 6", "b:345 c:126", "3 a>c 0, 2 c> 1", 2, 4},
		{two + "A a 6; R a b; A b 7", "b:1267", "2 a> 1, 3 a>b 0, 2 b> 1", 3, 6},
		{two + "A b 6; R a b", "b:12", "2 b> 1, 3 a>b 0", 3, 8},
		{two + "R a b; W a 6; R a b", "b:6", "3 a>b 0, 3 >a 0, 1 a> 1, 3 a>b 0", 3, 9},
		{"W a 1; R a b", "b:1", "3 >a 0, 1 a> 1, 3 a>b 0", 3, 9},
		{"W a 1; R a a", "a:1", "3 >a 0, 1 a> 1", 3, 9},
	})
	// On a disk without room for more.
	d := played(t, 2, 5, two+"R a c; R b d; R c d")
	wantFiles(t, "no more room", d, "d:12")
}

// TestP2407Remove: the name is gone, and the room is there.
func TestP2407Remove(t *testing.T) {
	two := "W a 12; W b 345; F a; F b; S; "
	wantRows(t, 4, 10, []row{
		{two + "D a", "b:345", "4 a> 0", 3, 7},
		{two + "D b", "a:12", "4 b> 0", 3, 8},
		{two + "D a; D b", "", "4 a> 0, 4 b> 0", 4, 10},
		{two + "D a; W a 6; D a", "b:345", "4 a> 0, 3 >a 0, 1 a> 1, 4 a> 0", 3, 7},
		{two + "R a c; D c", "b:345", "3 a>c 0, 4 c> 0", 3, 7},
		{two + "R a b; D b", "", "3 a>b 0, 4 b> 0", 4, 10},
		{two + "A a 6; D a", "b:345", "2 a> 1, 4 a> 0", 3, 7},
		{"W a 1; D a", "", "3 >a 0, 1 a> 1, 4 a> 0", 4, 10},
	})
}

// TestP2407None: no file has the name.
func TestP2407None(t *testing.T) {
	for _, script := range []string{"", "W b 1", "W a 1; D a", "W a 1; S; D a; S", "W a 1; R a b", "W a 1; R a a; R a b", "W a 1; C 0 1"} {
		for _, line := range []string{"R a b", "R a c", "R a a", "D a"} {
			d := played(t, 5, 50, script)
			wantStill(t, script+": "+line, d, api.ErrFile, func() api.Errno { return tell(d, line) })
		}
	}
}

// TestP2407Sync: names are made fast in their order, and bytes are not.
func TestP2407Sync(t *testing.T) {
	wantRows(t, 4, 10, []row{
		{"W a 1; S", "a:1", "1 a> 1", 3, 9},
		{"W a 1; A a 2; W b 3; S", "a:12 b:3", "1 a> 1, 2 a> 1, 1 b> 1", 2, 7},
		{"W a 1; R a b; D b; S", "", "1 a> 1", 4, 10},
		{"W a 1; R a b; S", "b:1", "1 a> 1", 3, 9},
		{"W a 1; W b 2; R a b; S", "b:1", "1 a> 1, 1 b> 1", 3, 9},
		{"W a 1; F a; S", "a:1", "", 3, 9},
		{"S", "", "", 4, 10},
	})
	for _, x := range []struct{ script, files string }{
		{"W a 1; S; C", "a:"},
		{"W a 1; F a; S; C", "a:1"},
		{"W a 1; F a; S; R a b; C", "a:1"},
		{"W a 1; F a; R a b; S; C", "b:1"},
		{"W a 1; F a; S; D a; C", "a:1"},
		{"W a 1; F a; D a; S; C", ""},
		{"W a 1; F a; D a; W a 2; S; C", "a:"},
		{"W a 1; F a; D a; W a 2; S; C 1", "a:2"},
		{"W a 1; F a; W b 2; F b; R a c; R b a; R c b; S; C", "a:2 b:1"},
		{"W a 1; F a; W b 2; F b; R a b; S; C", "b:1"},
		{"W a 1; F a; W b 2; F b; R a b; R b a; S; C", "a:1"},
		{"W a 1; W b 2; R a c; S; C 1 1", "b:2 c:1"},
		{"W a 1; W b 2; R a b; S; C 1 1", "b:1"},
		{"W a 1; W b 2; R a b; S; C 0 1", "b:"},
		{"W a 12; D a; S; W a 3; C 2 1 1", "a:3"},
		{"W a 12; D a; S; W a 3; C 2 1", "a:"},
		{"W a 12; A a 34; D a; S; C 2 1", ""},
	} {
		wantFiles(t, x.script, played(t, 5, 50, x.script), x.files)
	}
	// A sync with nothing pending is a step.
	d := played(t, 4, 10, "W a 1; F a; S")
	before := look(d)
	play(t, d, "S; S; Z 2; S")
	if after := look(d); after != before {
		t.Errorf("%s, want %s", after, before)
	}
	play(t, d, "S")
	if d.On() {
		t.Error("power")
	}
}
