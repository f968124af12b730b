package disk_test

import (
	"fmt"
	"strings"
	"testing"

	"pupil/api"
)

// row is a script, and what is told behind it: files, works, room.
type row struct {
	script, files, pending string
	names, bytes           int
}

// wantRows wants these rows of disks of a size.
func wantRows(t *testing.T, names, bytes int, rows []row) {
	t.Helper()
	for _, x := range rows {
		d := played(t, names, bytes, x.script)
		wantFiles(t, x.script, d, x.files)
		wantPending(t, x.script, d, x.pending)
		wantFree(t, x.script, d, x.names, x.bytes)
	}
}

// TestP2405Files: files that are new, and that are there; no bytes at all.
func TestP2405Files(t *testing.T) {
	wantRows(t, 3, 10, []row{
		{"W a xy", "a:xy", "3 >a 0, 1 a> 2", 2, 8},
		{"A a xy", "a:xy", "3 >a 0, 2 a> 2", 2, 8},
		{"W a", "a:", "3 >a 0, 1 a> 0", 2, 10},
		{"A a", "a:", "3 >a 0, 2 a> 0", 2, 10},
		{"W a xyz; W a v", "a:v", "3 >a 0, 1 a> 3, 1 a> 1", 2, 9},
		{"W a v; W a xyz", "a:xyz", "3 >a 0, 1 a> 1, 1 a> 3", 2, 7},
		{"W a xyz; A a v", "a:xyzv", "3 >a 0, 1 a> 3, 2 a> 1", 2, 6},
		{"A a v; W a xyz", "a:xyz", "3 >a 0, 2 a> 1, 1 a> 3", 2, 7},
		{"A a v; A a xyz; A a w", "a:vxyzw", "3 >a 0, 2 a> 1, 2 a> 3, 2 a> 1", 2, 5},
		{"W a xyz; W a", "a:", "3 >a 0, 1 a> 3, 1 a> 0", 2, 10},
		{"W a xyz; A a", "a:xyz", "3 >a 0, 1 a> 3, 2 a> 0", 2, 7},
		{"W a xyz; F a; S; W a; A a; A a vw", "a:vw", "1 a> 0, 2 a> 0, 2 a> 2", 2, 8},
		{"W b 1; A a 2; W c 3; A b 4", "a:2 b:14 c:3", "3 >b 0, 1 b> 1, 3 >a 0, 2 a> 1, 3 >c 0, 1 c> 1, 2 b> 1", 0, 6},
		{"W a 1; D a; W a 2", "a:2", "3 >a 0, 1 a> 1, 4 a> 0, 3 >a 0, 1 a> 1", 2, 9},
		{"W a 1; D a; A a 2", "a:2", "3 >a 0, 1 a> 1, 4 a> 0, 3 >a 0, 2 a> 1", 2, 9},
		{"W a 1; R a b; A a 2", "a:2 b:1", "3 >a 0, 1 a> 1, 3 a>b 0, 3 >a 0, 2 a> 1", 1, 8},
		{"W a 1; R a b; A b 2", "b:12", "3 >a 0, 1 a> 1, 3 a>b 0, 2 b> 1", 2, 8},
	})
}

// TestP2405Room: as many names, and bytes, as there is room for; one more of each, both.
func TestP2405Room(t *testing.T) {
	full := "W a 12345; W b 1234; W c 1"
	for _, x := range []struct {
		script, line string
		full         bool
	}{
		{"", "W a 1234567890", false}, {"", "W a 12345678901", true}, {"", "A a 1234567890", false}, {"", "A a 12345678901", true},
		{full, "W a 12345", false}, {full, "W a 123456", true}, {full, "W a 1234", false}, {full, "W a", false},
		{full, "A a", false}, {full, "A a 1", true}, {full, "A c 1", true}, {full, "W c 12", true}, {full, "W c 1", false},
		{full, "W d", true}, {full, "A d", true}, {full, "W d 1", true}, {full, "A d 1", true},
		{"W a 1234567890", "W b", false}, {"W a 1234567890", "A b", false}, {"W a 1234567890", "W b 1", true}, {"W a 1234567890", "A b 1", true},
		{"W a 1234567890", "W a 123", false}, {"W a 1234567890", "W a 0987654321", false}, {"W a 123456789", "A a 0", false}, {"W a 123456789", "A a 01", true},
		{"W a 123456789", "W b 1", false}, {"W a 123456789", "W b 12", true}, {"W a 123456789; W b 1", "W b 2", false}, {"W a 123456789; W b 1", "A b 2", true},
		// Room that is free as the files are, whether that is fast or not.
		{full + "; D a", "W d 12345", false}, {full + "; D a", "W d 123456", true}, {full + "; D a; D b", "W d 123456789", false}, {full + "; D a", "A b 12345", false},
		{full + "; R a b", "W d 1234", false}, {full + "; R a b", "W d 12345", true}, {full + "; R a b", "A b 1234", false}, {full + "; R a b", "A b 12345", true},
		{full + "; R b a", "W d 12345", false}, {full + "; R b a", "W d 123456", true},
		{full + "; W a 1", "A b 1234", false}, {full + "; W a 1", "A b 12345", true}, {full + "; W a", "W a 12345", false}, {full + "; W a", "W a 123456", true},
		{full + "; R a d", "W a", true}, {full + "; R a d", "A d", false}, {full + "; R a d", "A d 1", true},
		{full + "; S; F a; F b; F c; D b", "W b 1234", false}, {full + "; S; F a; F b; F c; D b", "W b 12345", true}, {full + "; D c; S", "W d 1", false}, {full + "; D c; S", "W d 12", true},
	} {
		d := played(t, 3, 10, x.script)
		if !x.full {
			play(t, d, x.line)
			continue
		}
		wantStill(t, x.script+": "+x.line, d, api.ErrFull, func() api.Errno { return tell(d, x.line) })
	}
}

// TestP2405None: room for no bytes.
func TestP2405None(t *testing.T) {
	d := made(t, 2, 0)
	play(t, d, "W a; A a; W a; A b; W b")
	wantFiles(t, "no bytes", d, "a: b:")
	wantPending(t, "no bytes", d, "3 >a 0, 1 a> 0, 2 a> 0, 1 a> 0, 3 >b 0, 2 b> 0, 1 b> 0")
	wantFree(t, "no bytes", d, 0, 0)
	for _, line := range []string{"W a x", "A a x", "W c", "W c x", "A c", "A c x"} {
		wantStill(t, line, d, api.ErrFull, func() api.Errno { return tell(d, line) })
	}
	d = made(t, 1, 0)
	for _, line := range []string{"W a x", "A a x"} {
		wantStill(t, line, d, api.ErrFull, func() api.Errno { return tell(d, line) })
	}
	wantPending(t, "no file is made", d, "")
}

// TestP2405Many: many appends to one file, and many writes of it.
func TestP2405Many(t *testing.T) {
	d := made(t, 1, 3000)
	want := ""
	for i := range 1000 {
		piece := fmt.Sprint(i % 1000 / 10)
		want += piece
		play(t, d, "A a "+piece)
	}
	wantFiles(t, "appends", d, "a:"+want)
	if l := d.Pending(); len(l) != 1001 {
		t.Errorf("%d works", len(l))
	}
	for i := range 1000 {
		play(t, d, "W a "+strings.Repeat("x", i))
	}
	wantFiles(t, "writes", d, "a:"+strings.Repeat("x", 999))
	wantFree(t, "writes", d, 0, 2001)
	if l := d.Pending(); len(l) != 2001 || l[2000] != (api.Work{Kind: 1, Name: "a", Len: 999}) {
		t.Errorf("%d works", len(l))
	}
}

// over are scripts behind which there is more than there is room for, 3 names and 10 bytes: names, bytes, both.
var over = []struct {
	script       string
	names, bytes int
}{
	{"W a 1; W b 1; W c 1; F a; F b; F c; S; D a; D b; W n; W o; C 0 0 1 0 1 0", -2, 7},
	{"W a 12345; W b 12345; F a; F b; S; D a; W n 1234; C 0 1 4", 0, -4},
	{"W a 12345; W b 12345; W c; F a; F b; F c; S; D a; W n 12345; C 0 1 5", -1, -5},
	{"W a 1234567890; F a; S; W a; A a 12345; C 0 9", 2, -5},
}

// TestP2405Over: where a crash has left more than there is room for, what would still be too much behind the call is refused, even if it were less.
func TestP2405Over(t *testing.T) {
	for i, x := range over {
		for _, c := range []struct {
			line string
			full [4]bool
		}{
			{"W a", [4]bool{true, false, true, false}},
			{"W a 1", [4]bool{true, false, true, false}},
			{"W a 12", [4]bool{true, true, true, false}},
			{"W a 1234567890", [4]bool{true, true, true, false}},
			{"W a 12345678901", [4]bool{true, true, true, true}},
			{"A a", [4]bool{true, true, true, true}},
			{"A a 1", [4]bool{true, true, true, true}},
			{"W new", [4]bool{true, true, true, true}},
			{"A new 1", [4]bool{true, true, true, true}},
		} {
			d := played(t, 3, 10, x.script)
			wantFree(t, x.script, d, x.names, x.bytes)
			if c.full[i] {
				wantStill(t, x.script+": "+c.line, d, api.ErrFull, func() api.Errno { return tell(d, c.line) })
			} else {
				wantError(t, x.script+": "+c.line, tell(d, c.line), api.OK)
			}
		}
	}
	// All other steps are done, and bring room back.
	d := played(t, 3, 10, over[0].script)
	play(t, d, "R a x; R x a; R a b; F b; S")
	wantFree(t, "renamed over another one", d, -1, 8)
	wantError(t, "still too many", d.Append("b", nil), api.ErrFull)
	play(t, d, "D c; A b; W n 1")
	wantFree(t, "removed", d, 0, 8)
	wantError(t, "one more", d.Append("x", nil), api.ErrFull)
	d = played(t, 3, 10, over[2].script+"; R n b")
	wantFree(t, "renamed over another one", d, 0, 0)
	play(t, d, "W c; A c")
}
