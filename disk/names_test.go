package disk_test

import (
	"strings"
	"testing"

	"pupil/api"
	"pupil/disk"
)

// taken are the places at which a name is handed in, and what is told, if no file has it. The file "there" is there.
var taken = []struct {
	what string
	none api.Errno
	call func(d *disk.Disk, name string) api.Errno
}{
	{"Write", api.OK, func(d *disk.Disk, name string) api.Errno { return d.Write(name, []byte("x")) }},
	{"Write of none", api.OK, func(d *disk.Disk, name string) api.Errno { return d.Write(name, nil) }},
	{"Append", api.OK, func(d *disk.Disk, name string) api.Errno { return d.Append(name, []byte("x")) }},
	{"Flush", api.ErrFile, func(d *disk.Disk, name string) api.Errno { return d.Flush(name) }},
	{"Rename to", api.OK, func(d *disk.Disk, name string) api.Errno { return d.Rename("there", name) }},
	{"Rename from", api.ErrFile, func(d *disk.Disk, name string) api.Errno { return d.Rename(name, "elsewhere") }},
	{"Rename both", api.ErrFile, func(d *disk.Disk, name string) api.Errno { return d.Rename(name, name) }},
	{"Remove", api.ErrFile, func(d *disk.Disk, name string) api.Errno { return d.Remove(name) }},
	{"Read", api.ErrFile, func(d *disk.Disk, name string) api.Errno { b, e := d.Read(name); return beside(b, e) }},
}

// beside tells the error of an answer; -1, if something stands beside one.
func beside(b []byte, e api.Errno) api.Errno {
	if e != api.OK && len(b) != 0 {
		return -1
	}
	return e
}

// wantName wants a name to be one, or not to be one, wherever it is handed in.
func wantName(t *testing.T, name string, good bool) {
	t.Helper()
	for _, x := range taken {
		d := played(t, 3, 10, "W there x")
		if !good {
			wantStill(t, x.what, d, api.ErrName, func() api.Errno { return x.call(d, name) })
			continue
		}
		wantError(t, x.what+" of none", x.call(d, name), x.none)
		d = played(t, 3, 10, "W there x")
		wantError(t, "Write", d.Write(name, []byte("y")), api.OK)
		wantError(t, x.what, x.call(d, name), api.OK)
	}
	if good {
		d := made(t, 3, 10)
		d.Write(name, []byte("y"))
		if l := d.List(); len(l) != 1 || l[0] != name || d.Pending()[0].To != name {
			t.Errorf("%q, %v", l, d.Pending())
		}
	}
}

const letters = "abcdefghijklmnopqrstuvwxyz0123456789-._"

// TestP2403Bytes: each of all bytes as the only one, the first, in the middle and the last of a name.
func TestP2403Bytes(t *testing.T) {
	count := 0
	for i := range 256 {
		b := string([]byte{byte(i)})
		good := strings.Contains(letters, b)
		if good {
			count++
		}
		for _, name := range []string{b, "a" + b, b + "a", "a" + b + "a", strings.Repeat("z", 31) + b, b + strings.Repeat("9", 31), "..." + b, b + b} {
			wantName(t, name, good)
		}
	}
	if count != 39 {
		t.Errorf("%d bytes", count)
	}
}

// TestP2403Long: names of all lengths.
func TestP2403Long(t *testing.T) {
	for n := range 70 {
		for _, b := range []string{"a", "-", ".", "_", "0"} {
			wantName(t, strings.Repeat(b, n), n >= 1 && n <= 32)
		}
	}
	wantName(t, letters[:32], true)
	wantName(t, letters[7:], true)
	wantName(t, letters[6:], false)
	wantName(t, strings.Repeat("a", 1<<16), false)
	wantName(t, strings.Repeat("a", 32)+"A", false)
	wantName(t, strings.Repeat("a", 1<<8+1), false)
}

// TestP2403Runes: runes of several bytes, those too whose lowest byte is a letter, and bytes that are no rune.
func TestP2403Runes(t *testing.T) {
	for _, name := range []string{"\u00e9", "a\u00e9", "\u0161", "\u0261", "\U00010061", "\u0430", "\uff41", "\u0660", "\ufffd", "a\ufffd", "\xff", "a\xc3", "\xe2\x82", "a\xed\xa0\x80", "\u2010", "a\u0301"} {
		wantName(t, name, false)
	}
	for _, name := range []string{"A", "aB", "a b", " a", "a ", "a/b", "a\\b", "a\x00", "\x00", "a\n", "*", "a:b", "~", "`", "{", "@", "[", ",", "+", "a,b"} {
		wantName(t, name, false)
	}
	for _, name := range []string{"new", "ck-0", "ck-1099511627776", ".", "..", "-", "_", "a.b", "0", "z9-._"} {
		wantName(t, name, true)
	}
}

// TestP2403Rename: from and to, each wrong alone and both.
func TestP2403Rename(t *testing.T) {
	for _, from := range []string{"", "A", "there", "none"} {
		for _, to := range []string{"", "A", "there", "none", strings.Repeat("a", 33)} {
			d := played(t, 3, 10, "W there x")
			want := api.OK
			switch {
			case badName(from) != api.OK || badName(to) != api.OK:
				want = api.ErrName
			case from == "none":
				want = api.ErrFile
			}
			if want == api.OK {
				wantError(t, from+" to "+to, d.Rename(from, to), want)
				continue
			}
			wantStill(t, from+" to "+to, d, want, func() api.Errno { return d.Rename(from, to) })
		}
	}
}

// TestErrors: of several things that are wrong the first is told, call by call: a name, no power, no file, no room.
func TestErrors(t *testing.T) {
	const name, off, file, full = 1, 2, 4, 8
	order := []struct {
		bit int
		e   api.Errno
	}{{name, api.ErrName}, {off, api.ErrOff}, {file, api.ErrFile}, {full, api.ErrFull}}
	for _, c := range []struct {
		what string
		can  int // What can be wrong.
		call func(d *disk.Disk, n string, b []byte) api.Errno
	}{
		{"Write", name | off | full, func(d *disk.Disk, n string, b []byte) api.Errno { return d.Write(n, b) }},
		{"Append", name | off | full, func(d *disk.Disk, n string, b []byte) api.Errno { return d.Append(n, b) }},
		{"Flush", name | off | file, func(d *disk.Disk, n string, _ []byte) api.Errno { return d.Flush(n) }},
		{"Rename", name | off | file, func(d *disk.Disk, n string, _ []byte) api.Errno { return d.Rename(n, "b") }},
		{"Rename to itself", name | off | file, func(d *disk.Disk, n string, _ []byte) api.Errno { return d.Rename(n, n) }},
		{"Remove", name | off | file, func(d *disk.Disk, n string, _ []byte) api.Errno { return d.Remove(n) }},
		{"Read", name | off | file, func(d *disk.Disk, n string, _ []byte) api.Errno { return beside(d.Read(n)) }},
		{"Sync", off, func(d *disk.Disk, _ string, _ []byte) api.Errno { return d.Sync() }},
	} {
		for wrong := range 16 {
			if wrong&^c.can != 0 {
				continue
			}
			for _, none := range []bool{false, true} { // With a file that has the name, or with none, where that is not wrong.
				d := played(t, 2, 4, "W a wxyz; S")
				n, b := "a", []byte("wxyz")
				if none && c.can&file == 0 {
					n = "b"
				}
				if wrong&name != 0 {
					n = "A"
				} else if wrong&file != 0 {
					n = "c"
				}
				if wrong&full != 0 {
					b = []byte("vwxyz")
				} else if n == "b" || c.what == "Append" {
					b = nil
				}
				if wrong&off != 0 {
					play(t, d, "Z 0")
				}
				want := api.OK
				for _, x := range order {
					if wrong&x.bit != 0 {
						want = x.e
						break
					}
				}
				if want == api.OK {
					wantError(t, c.what, c.call(d, n, b), want)
					continue
				}
				wantStill(t, c.what, d, want, func() api.Errno { return c.call(d, n, b) })
			}
		}
	}
	// Of Rename's names the one and the other, without power, and without a file.
	for _, x := range []struct {
		from, to string
		off      bool
		want     api.Errno
	}{{"A", "b", true, api.ErrName}, {"a", "B", true, api.ErrName}, {"c", "B", true, api.ErrName}, {"c", "B", false, api.ErrName}, {"A", "B", false, api.ErrName}, {"c", "b", true, api.ErrOff}, {"c", "b", false, api.ErrFile}, {"c", "c", true, api.ErrOff}} {
		d := played(t, 2, 4, "W a wxyz; S")
		if x.off {
			play(t, d, "Z 0")
		}
		wantStill(t, "Rename "+x.from+" "+x.to, d, x.want, func() api.Errno { return d.Rename(x.from, x.to) })
	}
	// Of a fuse the number, then the power.
	d := played(t, 2, 4, "Z 0")
	wantError(t, "Fuse(-1)", d.Fuse(-1), api.ErrArg)
	wantError(t, "Fuse(0)", d.Fuse(0), api.ErrOff)
	// Names that are full, and bytes that are.
	d = played(t, 1, 0, "W a")
	wantStill(t, "both full", d, api.ErrFull, func() api.Errno { return d.Write("b", []byte("x")) })
	wantStill(t, "a name ahead of both", d, api.ErrName, func() api.Errno { return d.Write("B", []byte("x")) })
}
