package disk_test

import (
	"fmt"
	"slices"
	"testing"

	"pupil/api"
)

// TestP2408Read: all bytes that there can be; a file without any; none.
func TestP2408Read(t *testing.T) {
	d := made(t, 3, 1000)
	var all []byte
	for i := range 256 {
		all = append(all, byte(i))
	}
	wantError(t, "Write", d.Write("a", all), api.OK)
	wantError(t, "Append", d.Append("a", all), api.OK)
	b, e := d.Read("a")
	if e != api.OK || !slices.Equal(b, slices.Concat(all, all)) {
		t.Errorf("%v, %v", b, e)
	}
	play(t, d, "F a; S; C")
	if b, e = d.Read("a"); e != api.OK || !slices.Equal(b, slices.Concat(all, all)) {
		t.Errorf("%v, %v", b, e)
	}
	play(t, d, "W b")
	if b, e = d.Read("b"); e != api.OK || len(b) != 0 {
		t.Errorf("%v, %v", b, e)
	}
	for _, script := range []string{"", "D a", "R b a; R a c", "S"} {
		play(t, d, script)
		wantError(t, "none", beside(d.Read("c1")), api.ErrFile)
	}
	wantError(t, "renamed", beside(d.Read("a")), api.ErrFile)
	wantError(t, "no name", beside(d.Read("a a")), api.ErrName)
}

// TestP2408List: names rise by their bytes, whenever they came.
func TestP2408List(t *testing.T) {
	want := []string{"-", "-a", ".", "..", "0", "00", "01", "1", "10", "2", "_", "a", "a-", "a.", "a0", "a_", "aa", "aaaaaaaaaaaaaaaaaaaaaaaaaaaaaaaa", "ab", "b", "z", "zz"}
	for turn := range len(want) {
		d := made(t, 64, 10)
		for i := range want {
			play(t, d, "W "+want[(7*i+turn)%len(want)])
		}
		if got := d.List(); !slices.Equal(got, want) {
			t.Fatalf("%q", got)
		}
		play(t, d, "S; C; D aa; R b aa; R 0 zzz")
		then := slices.DeleteFunc(slices.Clone(want), func(name string) bool { return name == "b" || name == "0" })
		if got := d.List(); !slices.Equal(got, append(then, "zzz")) {
			t.Fatalf("%q", got)
		}
	}
	if len(want)%7 == 0 {
		t.Error("not all names")
	}
}

// TestP2408Free: the room of names and bytes, call by call; below 0 behind a crash.
func TestP2408Free(t *testing.T) {
	d := made(t, 3, 10)
	for _, x := range []struct {
		line         string
		names, bytes int
	}{
		{"W a 1234", 2, 6}, {"A a 5", 2, 5}, {"W a 12", 2, 8}, {"F a", 2, 8}, {"S", 2, 8}, {"W b", 1, 8}, {"A b 123", 1, 5}, {"R b c", 1, 5}, {"R c a", 2, 7}, {"D a", 3, 10},
		{"W c 1234567890", 2, 0}, {"W c", 2, 10}, {"C", 2, 8}, {"W n 123", 1, 5}, {"C 0 3", 2, 8}, {"W n 123", 1, 5}, {"C 1 2", 1, 6},
	} {
		play(t, d, x.line)
		wantFree(t, x.line, d, x.names, x.bytes)
	}
	for _, x := range over {
		d := played(t, 3, 10, x.script)
		wantFree(t, x.script, d, x.names, x.bytes)
		play(t, d, "S; C")
		wantFree(t, x.script, d, x.names, x.bytes)
		play(t, d, "Z 0")
		wantFree(t, x.script, d, 0, 0)
		play(t, d, "C")
		wantFree(t, x.script, d, x.names, x.bytes)
	}
	// Further and further below.
	d = played(t, 1, 4, "W a 1234; F a; S")
	for i := range 100 {
		play(t, d, "D a")
		for len(d.List()) > 0 {
			play(t, d, "D "+d.List()[0])
		}
		name := fmt.Sprint("n", i)
		play(t, d, "W "+name+" 1234")
		keep := make([]int, len(d.Pending()))
		keep[len(keep)-2], keep[len(keep)-1] = 1, 4
		d.Crash(keep)
		wantFree(t, name, d, -i-1, -4*i-4)
	}
}

// TestP2409: all works in their order, whatever becomes of them; the name is that which the call had.
func TestP2409(t *testing.T) {
	d := made(t, 4, 50)
	for _, x := range []struct{ line, want string }{
		{"W a 123", "3 >a 0, 1 a> 3"},
		{"R a b", "3 >a 0, 1 a> 3, 3 a>b 0"},
		{"A b 45", "3 >a 0, 1 a> 3, 3 a>b 0, 2 b> 2"},
		{"W c", "3 >a 0, 1 a> 3, 3 a>b 0, 2 b> 2, 3 >c 0, 1 c> 0"},
		{"R b c", "3 >a 0, 1 a> 3, 3 a>b 0, 2 b> 2, 3 >c 0, 1 c> 0, 3 b>c 0"},
		{"D c", "3 >a 0, 1 a> 3, 3 a>b 0, 2 b> 2, 3 >c 0, 1 c> 0, 3 b>c 0, 4 c> 0"},
		{"A a 6", "3 >a 0, 1 a> 3, 3 a>b 0, 2 b> 2, 3 >c 0, 1 c> 0, 3 b>c 0, 4 c> 0, 3 >a 0, 2 a> 1"},
		{"F a", "3 >a 0, 1 a> 3, 3 a>b 0, 2 b> 2, 3 >c 0, 1 c> 0, 3 b>c 0, 4 c> 0, 3 >a 0"},
		{"S", "1 a> 3, 2 b> 2, 1 c> 0"},
		{"Z 1", "1 a> 3, 2 b> 2, 1 c> 0"},
		{"W a 7", "1 a> 3, 2 b> 2, 1 c> 0, 1 a> 1"},
		{"C 1 1 1", ""},
		{"C", ""},
	} {
		play(t, d, x.line)
		wantPending(t, x.line, d, x.want)
		if x.line == "W a 7" && d.On() {
			t.Error("power")
		}
	}
	wantFiles(t, "behind it", d, "a:6")
}
